import Derived.Test.YtimjlgglhonhkaaRefDequeStep
import Derived.Shelf.SortM.Plain
/- Layer deque, the document's answer: Items, by the owner's cases. -/
namespace Go.Proofs.Ytimjlgglhonhkaa
open Go.RowKit

set_option maxRecDepth 100000 in
set_option maxHeartbeats 4000000 in
theorem ritems_An1 (k p s c b t x u : Int) (v : Value) (m : List Int) (base n : Int) (w : World) (h : Cells w v m) (hm : AllU m) (hbig : m.length * 8 ≤ 140737488351232) (hbase : I6 base) (hn : I6 n) (q fr to T d mm : Int) (hq : s64 (base + 1) = q) (hf : loadF m base = fr) (hto : loadF m q = to) (hmm : min (max n 1) 64 = mm)
    (q2 : (k == 2) = false) (hT : to = T) (hE : endF m base ⟨k, p, s, c, b, t, x, u⟩ = T) (hd : w64 (T - fr) = d) (ds : Int) (hds : s64 (T - fr) = ds) (hc : ds ≤ 0) (r : List Int) (hr : itemsF m base n ⟨k, p, s, c, b, t, x, u⟩ = r) (rn : Nat) (hrn : r.length = rn) :
    Calls Try.prog 16 #[v, .int .i64 base, .int .i64 n, mvv k p s c b t x u] w (ItemsEnd w r rn) := by
  obtain ⟨w1, e1, hb1, M1⟩ := rbox_one w k p s c b t x u
  have HMB := hide M1
  have HC := hide (h.below hb1)
  have e4 : IntKind.i64.wrap (base + 1) = q := by rw [wrap_s]; exact hq
  have e5 : wrap64 (base + 1) = q := by rw [wrap64_s]; exact hq
  have HF := hide hf
  have HTO := hide hto
  obtain ⟨w2, e2, hb2, M2⟩ := rbox_one w1 0 0 base n 0 0 0 0
  have HE2 := hide e2
  have HM1 := hide (HMB.out.below hb2)
  have HM2 := hide M2
  have HC2 := hide (HC.out.below hb2)
  have HB2 := hide (bcall hb1 hb2)
  have HBG := hide hbig
  have HNN := hide hn
  have HRN := hide hrn
  have HHM := hide hm
  have HHB := hide hbase
  have e7 : IntKind.u64.wrap (T - fr) = d := by rw [wrap_w]; exact hd
  have hmm1 : 1 ≤ mm ∧ mm ≤ 64 := by omega
  have e10 : IntKind.u64.wrap mm = mm := by rw [wrap_w]; exact w64_small (by omega) (by omega)
  have e8 : IntKind.i64.wrap d = ds := by rw [wrap_s, ← hd, s64_w64]; exact hds
  have e9 : wrap64 d = ds := by rw [wrap64_s, ← hd, s64_w64]; exact hds
  have HR := hide (show r = [] by
    rw [← hr]; unfold itemsF; simp only [hE, hf, hd, hds, hmm]; rw [if_pos (.inl hc)])
  have d1 : decide (ds ≤ 0) = true := decide_eq_true hc
  clear hb1 hb2 M1 M2 hf hto hbig hn hE hq hd hrn hr h hm hbase hds
  subst hT
  go_enter Try.func16, Try.ntmps16
  go_upto_region 1 with (fail)
  clear e1 e2
  go_wp2_with fail
  rw [HE2.out]
  (with_reducible refine (rload_any _ m base fr HF.out _ HC2.out HBG.out).mono ?_)
  rintro e w3 ⟨rfl, hb3⟩
  have HM1 := hide (HM1.out.below hb3)
  have HM2 := hide (HM2.out.below hb3)
  have HC2 := hide (HC2.out.below hb3)
  have HB2 := hide (bcall HB2.out hb3)
  clear hb3
  go_wp2_with fail
  (with_reducible refine (rload_any _ m q to HTO.out _ HC2.out HBG.out).mono ?_)
  rintro e w4 ⟨rfl, hb4⟩
  have HM1 := hide (HM1.out.below hb4)
  have HM2 := hide (HM2.out.below hb4)
  have HC2 := hide (HC2.out.below hb4)
  have HB2 := hide (bcall HB2.out hb4)
  clear hb4
  obtain ⟨a0, a1, a2, a3, a4, a5, a6, a7⟩ := HM1.out.cells
  go_wp2
  go_ret
  have := items_fin (r := r) (n := rn) (⟨World.ownsRow_nil _ _ _ _, Below.refl _ _⟩ : ItAt w4 w4 [] 0 (.slice none 0 0)) rfl HR.out HRN.out
  obtain ⟨A9, c9, h91, h92, h93, h94⟩ := this
  exact ⟨A9, c9, h91, h92, h93, bcall HB2.out h94⟩
set_option maxRecDepth 100000 in
set_option maxHeartbeats 4000000 in
theorem ritems_An2 (k p s c b t x u : Int) (v : Value) (m : List Int) (base n : Int) (w : World) (h : Cells w v m) (hm : AllU m) (hbig : m.length * 8 ≤ 140737488351232) (hbase : I6 base) (hn : I6 n) (q fr to T d mm : Int) (hq : s64 (base + 1) = q) (hf : loadF m base = fr) (hto : loadF m q = to) (hmm : min (max n 1) 64 = mm)
    (q2 : (k == 2) = false) (hT : to = T) (hE : endF m base ⟨k, p, s, c, b, t, x, u⟩ = T) (hd : w64 (T - fr) = d) (ds : Int) (hds : s64 (T - fr) = ds) (hc : ¬ ds ≤ 0) (hc2 : mm < d) (r : List Int) (hr : itemsF m base n ⟨k, p, s, c, b, t, x, u⟩ = r) (rn : Nat) (hrn : r.length = rn) :
    Calls Try.prog 16 #[v, .int .i64 base, .int .i64 n, mvv k p s c b t x u] w (ItemsEnd w r rn) := by
  obtain ⟨w1, e1, hb1, M1⟩ := rbox_one w k p s c b t x u
  have HMB := hide M1
  have HC := hide (h.below hb1)
  have e4 : IntKind.i64.wrap (base + 1) = q := by rw [wrap_s]; exact hq
  have e5 : wrap64 (base + 1) = q := by rw [wrap64_s]; exact hq
  have HF := hide hf
  have HTO := hide hto
  obtain ⟨w2, e2, hb2, M2⟩ := rbox_one w1 0 0 base n 0 0 0 0
  have HE2 := hide e2
  have HM1 := hide (HMB.out.below hb2)
  have HM2 := hide M2
  have HC2 := hide (HC.out.below hb2)
  have HB2 := hide (bcall hb1 hb2)
  have HBG := hide hbig
  have HNN := hide hn
  have HRN := hide hrn
  have HHM := hide hm
  have HHB := hide hbase
  have e7 : IntKind.u64.wrap (T - fr) = d := by rw [wrap_w]; exact hd
  have hmm1 : 1 ≤ mm ∧ mm ≤ 64 := by omega
  have e10 : IntKind.u64.wrap mm = mm := by rw [wrap_w]; exact w64_small (by omega) (by omega)
  have e8 : IntKind.i64.wrap d = ds := by rw [wrap_s, ← hd, s64_w64]; exact hds
  have e9 : wrap64 d = ds := by rw [wrap64_s, ← hd, s64_w64]; exact hds
  have HR := hide (show r = [] by
    rw [← hr]; unfold itemsF; simp only [hE, hf, hd, hds, hmm]; rw [if_pos (.inr hc2)])
  have d1 : decide (ds ≤ 0) = false := decide_eq_false hc
  have d2 : decide (mm < d) = true := decide_eq_true hc2
  clear hb1 hb2 M1 M2 hf hto hbig hn hE hq hd hrn hr h hm hbase hds
  subst hT
  go_enter Try.func16, Try.ntmps16
  go_upto_region 1 with (fail)
  clear e1 e2
  go_wp2_with fail
  rw [HE2.out]
  (with_reducible refine (rload_any _ m base fr HF.out _ HC2.out HBG.out).mono ?_)
  rintro e w3 ⟨rfl, hb3⟩
  have HM1 := hide (HM1.out.below hb3)
  have HM2 := hide (HM2.out.below hb3)
  have HC2 := hide (HC2.out.below hb3)
  have HB2 := hide (bcall HB2.out hb3)
  clear hb3
  go_wp2_with fail
  (with_reducible refine (rload_any _ m q to HTO.out _ HC2.out HBG.out).mono ?_)
  rintro e w4 ⟨rfl, hb4⟩
  have HM1 := hide (HM1.out.below hb4)
  have HM2 := hide (HM2.out.below hb4)
  have HC2 := hide (HC2.out.below hb4)
  have HB2 := hide (bcall HB2.out hb4)
  clear hb4
  obtain ⟨a0, a1, a2, a3, a4, a5, a6, a7⟩ := HM1.out.cells
  go_wp2
  go_ret
  have := items_fin (r := r) (n := rn) (⟨World.ownsRow_nil _ _ _ _, Below.refl _ _⟩ : ItAt w4 w4 [] 0 (.slice none 0 0)) rfl HR.out HRN.out
  obtain ⟨A9, c9, h91, h92, h93, h94⟩ := this
  exact ⟨A9, c9, h91, h92, h93, bcall HB2.out h94⟩
set_option maxRecDepth 100000 in
set_option maxHeartbeats 4000000 in
theorem ritems_Aok (k p s c b t x u : Int) (v : Value) (m : List Int) (base n : Int) (w : World) (h : Cells w v m) (hm : AllU m) (hbig : m.length * 8 ≤ 140737488351232) (hbase : I6 base) (hn : I6 n) (q fr to T d mm : Int) (hq : s64 (base + 1) = q) (hf : loadF m base = fr) (hto : loadF m q = to) (hmm : min (max n 1) 64 = mm)
    (q2 : (k == 2) = false) (hT : to = T) (hE : endF m base ⟨k, p, s, c, b, t, x, u⟩ = T) (hd : w64 (T - fr) = d) (D : Nat) (hD : d = D) (hD1 : 0 < D) (hD2 : d ≤ mm) (r : List Int) (hr : itemsF m base n ⟨k, p, s, c, b, t, x, u⟩ = r) (rn : Nat) (hrn : r.length = rn) :
    Calls Try.prog 16 #[v, .int .i64 base, .int .i64 n, mvv k p s c b t x u] w (ItemsEnd w r rn) := by
  obtain ⟨w1, e1, hb1, M1⟩ := rbox_one w k p s c b t x u
  have HMB := hide M1
  have HC := hide (h.below hb1)
  have e4 : IntKind.i64.wrap (base + 1) = q := by rw [wrap_s]; exact hq
  have e5 : wrap64 (base + 1) = q := by rw [wrap64_s]; exact hq
  have HF := hide hf
  have HTO := hide hto
  obtain ⟨w2, e2, hb2, M2⟩ := rbox_one w1 0 0 base n 0 0 0 0
  have HE2 := hide e2
  have HM1 := hide (HMB.out.below hb2)
  have HM2 := hide M2
  have HC2 := hide (HC.out.below hb2)
  have HB2 := hide (bcall hb1 hb2)
  have HBG := hide hbig
  have HNN := hide hn
  have HRN := hide hrn
  have HHM := hide hm
  have HHB := hide hbase
  have e7 : IntKind.u64.wrap (T - fr) = d := by rw [wrap_w]; exact hd
  have hmm1 : 1 ≤ mm ∧ mm ≤ 64 := by omega
  have e10 : IntKind.u64.wrap mm = mm := by rw [wrap_w]; exact w64_small (by omega) (by omega)
  have hUT : U T := by rw [← hT, ← hto]; exact load_U hm _
  have h64 : D ≤ 64 := by omega
  have hfU := load_U hm base
  rw [hf] at hfU
  have HR := hide (show r = ((plL fr base n D).map (loadF m)).map s64 by rw [← hr]; exact items_fit hf hE hd (by rw [hmm]; exact hD2) D hD)
  have HGE := hide (go_end hUT hd D hD)
  have HFR := hide (show w64 (fr + ((0 : Nat) : Int)) = fr by unfold U at hfU; rw [show fr + ((0 : Nat) : Int) = fr by simp]; exact w64_small hfU.1 hfU.2)
  have HGN := hide (fun (j : Nat) (hj : j < D) => go_ne hUT hd hD h64 hj)
  have HGL := hide (fun (j : Nat) (hj : j ≤ D) => go_left hUT hd hD hj h64)
  have e8 : IntKind.i64.wrap d = d := by rw [wrap_s]; exact s64_small (by omega) (by omega)
  have e9 : wrap64 d = d := by rw [wrap64_s]; exact s64_small (by omega) (by omega)
  have d1 : decide (d ≤ 0) = false := decide_eq_false (by omega)
  have d2 : decide (mm < d) = false := decide_eq_false (by omega)
  clear hUT hfU
  clear hb1 hb2 M1 M2 hf hto hbig hn hE hq hd hrn hr h hm hbase
  subst hT
  go_enter Try.func16, Try.ntmps16
  go_upto_region 1 with (fail)
  clear e1 e2
  go_wp2_with fail
  rw [HE2.out]
  (with_reducible refine (rload_any _ m base fr HF.out _ HC2.out HBG.out).mono ?_)
  rintro e w3 ⟨rfl, hb3⟩
  have HM1 := hide (HM1.out.below hb3)
  have HM2 := hide (HM2.out.below hb3)
  have HC2 := hide (HC2.out.below hb3)
  have HB2 := hide (bcall HB2.out hb3)
  clear hb3
  go_wp2_with fail
  (with_reducible refine (rload_any _ m q to HTO.out _ HC2.out HBG.out).mono ?_)
  rintro e w4 ⟨rfl, hb4⟩
  have HM1 := hide (HM1.out.below hb4)
  have HM2 := hide (HM2.out.below hb4)
  have HC2 := hide (HC2.out.below hb4)
  have HB2 := hide (bcall HB2.out hb4)
  clear hb4
  obtain ⟨a0, a1, a2, a3, a4, a5, a6, a7⟩ := HM1.out.cells
  obtain ⟨i0, hi, hz0, hz1, hz2⟩ := info_parts infoI
  go_wp2
  go_loopw [13, 14] (fun ov iv wr => ∃ j : Nat, j ≤ D ∧ iv = .int .u64 (w64 (fr + (j : Nat))) ∧ Hid (ItAt w4 wr (((plL fr base n j).map (loadF m)).map s64) j ov)) (fun _ iv _ => (w64 (to - Go.RowKit.intOf iv)).toNat)
  case atStart => exact ⟨0, Nat.zero_le _, by rw [HFR.out], hide ⟨World.ownsRow_nil _ _ _ _, Below.refl _ _⟩⟩
  case round =>
    obtain ⟨j, hj, rfl, HA⟩ := hrel
    obtain ⟨iv, hiv⟩ : ∃ iv, w64 (fr + (j : Nat)) = iv := ⟨_, rfl⟩
    have HIV := hide hiv
    rw [hiv]
    have hsz := HA.out.below.size
    by_cases hlt : j < D
    · have q0 : (iv != to) = true := by rw [bne_iff_ne, ← hiv]; exact HGN.out j hlt
      obtain ⟨pq, hpq⟩ : ∃ pq, plF fr base n j = pq := ⟨_, rfl⟩
      have HPQ := hide (show s64 (base + 2 + iv % max n 1) = pq by rw [← hiv]; exact hpq)
      have HU := hide (show U iv by rw [← hiv]; exact w64_U' _)
      obtain ⟨y, hy⟩ : ∃ y, loadF m pq = y := ⟨_, rfl⟩
      have HY := hide hy
      obtain ⟨y1, hy1⟩ : ∃ y1, s64 y = y1 := ⟨_, rfl⟩
      have HPL := hide (show ((plL fr base n (j + 1)).map (loadF m)).map s64 = ((plL fr base n j).map (loadF m)).map s64 ++ [y1] by rw [plL_succ, List.map_append, List.map_append, hpq]; simp [hy, hy1])
      have e11 : IntKind.i64.wrap y = y1 := by rw [wrap_s]; exact hy1
      have e12 : wrap64 y = y1 := by rw [wrap64_s]; exact hy1
      obtain ⟨iv2, hiv2⟩ : ∃ iv2, w64 (iv + 1) = iv2 := ⟨_, rfl⟩
      have e13 : IntKind.u64.wrap (iv + 1) = iv2 := by rw [wrap_w]; exact hiv2
      have HNX := hide (show w64 (fr + ((j + 1 : Nat) : Int)) = iv2 by rw [← hiv2, ← hiv]; exact (go_next fr j).symm)
      have HDB := hide (HM2.out.below HA.out.below)
      obtain ⟨z0, z1, z2, z3, z4, z5, z6, z7⟩ := HDB.out.cells
      have HCA := hide (HC2.out.below HA.out.below)
      clear hpq hiv hiv2 hy hy1
      go_wp2_with fail
      (with_reducible refine (rplace_any 0 0 base n 0 0 0 0 iv pq HNN.out HU.out HPQ.out _).mono ?_)
      rintro e w6 ⟨rfl, hb6⟩
      have HCA := hide (HCA.out.below hb6)
      go_wp2_with fail
      (with_reducible refine (rload_any _ m pq y HY.out _ HCA.out HBG.out).mono ?_)
      rintro e w7 ⟨rfl, hb7⟩
      have HOW := hide (own_below (own_below HA.out.own hb6) hb7)
      have HBW := hide (bcall (bcall HA.out.below hb6) hb7)
      have hsz7 := HBW.out.size
      clear hb6 hb7
      go_wp2_with (at_builtin; refine wpList_append_own _ rfl _ _ 34 rfl w4.heap.size 3 i0 (.int .i64 0) 1 8 Try.underlying34 hi hz0 hz1 hz2 rfl (by decide) _ _ _ rfl (HOW.out.alloc _) ⟨_, 0, none⟩ 1 1 [.int .i64 y1] rfl rfl (row_at _ _ _ (by simp)) (by simp [Value.oneCell']) (by simp only [maxLen]; omega) (by omega) (by simp; omega) ?_; intro h'' w9 hown' hgrow _)
      go_roundw
      case rel =>
        refine ⟨j + 1, by omega, by rw [HNX.out], hide ⟨?_, ?_⟩⟩
        · rw [HPL.out, List.flatMap_append]; exact hown'
        · exact (HBW.out.alloc hsz7 _).grown hgrow (by simp; omega) (own_ge HOW.out)
      case measure =>
        show (w64 (to - iv2)).toNat < (w64 (to - iv)).toNat
        have ha := HGL.out j (by omega)
        have hb := HGL.out (j + 1) (by omega)
        rw [HIV.out] at ha
        rw [HNX.out] at hb
        omega
    · have hjD : j = D := by omega
      obtain rfl : iv = to := by rw [← hiv, hjD]; exact HGE.out
      have q0 : (iv != iv) = false := by simp
      clear hiv
      go_wp2
      go_ret
      have := items_fin (r := r) (n := rn) HA.out (by rw [List.length_map, List.length_map, plL_len]) (by rw [HR.out, hjD]) HRN.out
      obtain ⟨A9, c9, h91, h92, h93, h94⟩ := this
      exact ⟨A9, c9, h91, h92, h93, bcall HB2.out h94⟩
theorem ritems_A (k p s c b t x u : Int) (v : Value) (m : List Int) (base n : Int) (w : World) (h : Cells w v m) (hm : AllU m) (hbig : m.length * 8 ≤ 140737488351232) (hbase : I6 base) (hn : I6 n)
    (q2 : (k == 2) = false) (hx : extF ⟨k, p, s, c, b, t, x, u⟩ = false) (r : List Int) (hr : itemsF m base n ⟨k, p, s, c, b, t, x, u⟩ = r) (rn : Nat) (hrn : r.length = rn) :
    Calls Try.prog 16 #[v, .int .i64 base, .int .i64 n, mvv k p s c b t x u] w (ItemsEnd w r rn) := by
  by_cases hc : s64 ((loadF m (s64 (base + 1))) - loadF m base) ≤ 0
  · exact ritems_An1 k p s c b t x u v m base n w h hm hbig hbase hn _ _ _ _ _ _ rfl rfl rfl rfl q2 rfl (end_no rfl rfl (load_U hm _) hx) rfl _ rfl hc r hr rn hrn
  · by_cases hc2 : min (max n 1) 64 < w64 ((loadF m (s64 (base + 1))) - loadF m base)
    · exact ritems_An2 k p s c b t x u v m base n w h hm hbig hbase hn _ _ _ _ _ _ rfl rfl rfl rfl q2 rfl (end_no rfl rfl (load_U hm _) hx) rfl _ rfl hc hc2 r hr rn hrn
    · have h0 := (w64_U' ((loadF m (s64 (base + 1))) - loadF m base)).1
      have h1 : w64 ((loadF m (s64 (base + 1))) - loadF m base) ≠ 0 := fun e => hc (by rw [← s64_w64, e]; decide)
      exact ritems_Aok k p s c b t x u v m base n w h hm hbig hbase hn _ _ _ _ _ _ rfl rfl rfl rfl q2 rfl (end_no rfl rfl (load_U hm _) hx) rfl _ (Int.toNat_of_nonneg h0).symm (by omega) (by omega) r hr rn hrn
set_option maxRecDepth 100000 in
set_option maxHeartbeats 4000000 in
theorem ritems_Bn1 (p s c b t x u : Int) (v : Value) (m : List Int) (base n : Int) (w : World) (h : Cells w v m) (hm : AllU m) (hbig : m.length * 8 ≤ 140737488351232) (hbase : I6 base) (hn : I6 n) (q fr to T d mm : Int) (hq : s64 (base + 1) = q) (hf : loadF m base = fr) (hto : loadF m q = to) (hmm : min (max n 1) 64 = mm)
    (q2 : (u == 0) = false) (hT : to = T) (hE : endF m base ⟨2, p, s, c, b, t, x, u⟩ = T) (hd : w64 (T - fr) = d) (ds : Int) (hds : s64 (T - fr) = ds) (hc : ds ≤ 0) (r : List Int) (hr : itemsF m base n ⟨2, p, s, c, b, t, x, u⟩ = r) (rn : Nat) (hrn : r.length = rn) :
    Calls Try.prog 16 #[v, .int .i64 base, .int .i64 n, mvv 2 p s c b t x u] w (ItemsEnd w r rn) := by
  obtain ⟨w1, e1, hb1, M1⟩ := rbox_one w 2 p s c b t x u
  have HMB := hide M1
  have HC := hide (h.below hb1)
  have e4 : IntKind.i64.wrap (base + 1) = q := by rw [wrap_s]; exact hq
  have e5 : wrap64 (base + 1) = q := by rw [wrap64_s]; exact hq
  have HF := hide hf
  have HTO := hide hto
  obtain ⟨w2, e2, hb2, M2⟩ := rbox_one w1 0 0 base n 0 0 0 0
  have HE2 := hide e2
  have HM1 := hide (HMB.out.below hb2)
  have HM2 := hide M2
  have HC2 := hide (HC.out.below hb2)
  have HB2 := hide (bcall hb1 hb2)
  have HBG := hide hbig
  have HNN := hide hn
  have HRN := hide hrn
  have HHM := hide hm
  have HHB := hide hbase
  have e7 : IntKind.u64.wrap (T - fr) = d := by rw [wrap_w]; exact hd
  have hmm1 : 1 ≤ mm ∧ mm ≤ 64 := by omega
  have e10 : IntKind.u64.wrap mm = mm := by rw [wrap_w]; exact w64_small (by omega) (by omega)
  have e8 : IntKind.i64.wrap d = ds := by rw [wrap_s, ← hd, s64_w64]; exact hds
  have e9 : wrap64 d = ds := by rw [wrap64_s, ← hd, s64_w64]; exact hds
  have HR := hide (show r = [] by
    rw [← hr]; unfold itemsF; simp only [hE, hf, hd, hds, hmm]; rw [if_pos (.inl hc)])
  have d1 : decide (ds ≤ 0) = true := decide_eq_true hc
  clear hb1 hb2 M1 M2 hf hto hbig hn hE hq hd hrn hr h hm hbase hds
  subst hT
  go_enter Try.func16, Try.ntmps16
  go_upto_region 1 with (fail)
  clear e1 e2
  go_wp2_with fail
  rw [HE2.out]
  (with_reducible refine (rload_any _ m base fr HF.out _ HC2.out HBG.out).mono ?_)
  rintro e w3 ⟨rfl, hb3⟩
  have HM1 := hide (HM1.out.below hb3)
  have HM2 := hide (HM2.out.below hb3)
  have HC2 := hide (HC2.out.below hb3)
  have HB2 := hide (bcall HB2.out hb3)
  clear hb3
  go_wp2_with fail
  (with_reducible refine (rload_any _ m q to HTO.out _ HC2.out HBG.out).mono ?_)
  rintro e w4 ⟨rfl, hb4⟩
  have HM1 := hide (HM1.out.below hb4)
  have HM2 := hide (HM2.out.below hb4)
  have HC2 := hide (HC2.out.below hb4)
  have HB2 := hide (bcall HB2.out hb4)
  clear hb4
  obtain ⟨a0, a1, a2, a3, a4, a5, a6, a7⟩ := HM1.out.cells
  go_wp2
  go_ret
  have := items_fin (r := r) (n := rn) (⟨World.ownsRow_nil _ _ _ _, Below.refl _ _⟩ : ItAt w4 w4 [] 0 (.slice none 0 0)) rfl HR.out HRN.out
  obtain ⟨A9, c9, h91, h92, h93, h94⟩ := this
  exact ⟨A9, c9, h91, h92, h93, bcall HB2.out h94⟩
set_option maxRecDepth 100000 in
set_option maxHeartbeats 4000000 in
theorem ritems_Bn2 (p s c b t x u : Int) (v : Value) (m : List Int) (base n : Int) (w : World) (h : Cells w v m) (hm : AllU m) (hbig : m.length * 8 ≤ 140737488351232) (hbase : I6 base) (hn : I6 n) (q fr to T d mm : Int) (hq : s64 (base + 1) = q) (hf : loadF m base = fr) (hto : loadF m q = to) (hmm : min (max n 1) 64 = mm)
    (q2 : (u == 0) = false) (hT : to = T) (hE : endF m base ⟨2, p, s, c, b, t, x, u⟩ = T) (hd : w64 (T - fr) = d) (ds : Int) (hds : s64 (T - fr) = ds) (hc : ¬ ds ≤ 0) (hc2 : mm < d) (r : List Int) (hr : itemsF m base n ⟨2, p, s, c, b, t, x, u⟩ = r) (rn : Nat) (hrn : r.length = rn) :
    Calls Try.prog 16 #[v, .int .i64 base, .int .i64 n, mvv 2 p s c b t x u] w (ItemsEnd w r rn) := by
  obtain ⟨w1, e1, hb1, M1⟩ := rbox_one w 2 p s c b t x u
  have HMB := hide M1
  have HC := hide (h.below hb1)
  have e4 : IntKind.i64.wrap (base + 1) = q := by rw [wrap_s]; exact hq
  have e5 : wrap64 (base + 1) = q := by rw [wrap64_s]; exact hq
  have HF := hide hf
  have HTO := hide hto
  obtain ⟨w2, e2, hb2, M2⟩ := rbox_one w1 0 0 base n 0 0 0 0
  have HE2 := hide e2
  have HM1 := hide (HMB.out.below hb2)
  have HM2 := hide M2
  have HC2 := hide (HC.out.below hb2)
  have HB2 := hide (bcall hb1 hb2)
  have HBG := hide hbig
  have HNN := hide hn
  have HRN := hide hrn
  have HHM := hide hm
  have HHB := hide hbase
  have e7 : IntKind.u64.wrap (T - fr) = d := by rw [wrap_w]; exact hd
  have hmm1 : 1 ≤ mm ∧ mm ≤ 64 := by omega
  have e10 : IntKind.u64.wrap mm = mm := by rw [wrap_w]; exact w64_small (by omega) (by omega)
  have e8 : IntKind.i64.wrap d = ds := by rw [wrap_s, ← hd, s64_w64]; exact hds
  have e9 : wrap64 d = ds := by rw [wrap64_s, ← hd, s64_w64]; exact hds
  have HR := hide (show r = [] by
    rw [← hr]; unfold itemsF; simp only [hE, hf, hd, hds, hmm]; rw [if_pos (.inr hc2)])
  have d1 : decide (ds ≤ 0) = false := decide_eq_false hc
  have d2 : decide (mm < d) = true := decide_eq_true hc2
  clear hb1 hb2 M1 M2 hf hto hbig hn hE hq hd hrn hr h hm hbase hds
  subst hT
  go_enter Try.func16, Try.ntmps16
  go_upto_region 1 with (fail)
  clear e1 e2
  go_wp2_with fail
  rw [HE2.out]
  (with_reducible refine (rload_any _ m base fr HF.out _ HC2.out HBG.out).mono ?_)
  rintro e w3 ⟨rfl, hb3⟩
  have HM1 := hide (HM1.out.below hb3)
  have HM2 := hide (HM2.out.below hb3)
  have HC2 := hide (HC2.out.below hb3)
  have HB2 := hide (bcall HB2.out hb3)
  clear hb3
  go_wp2_with fail
  (with_reducible refine (rload_any _ m q to HTO.out _ HC2.out HBG.out).mono ?_)
  rintro e w4 ⟨rfl, hb4⟩
  have HM1 := hide (HM1.out.below hb4)
  have HM2 := hide (HM2.out.below hb4)
  have HC2 := hide (HC2.out.below hb4)
  have HB2 := hide (bcall HB2.out hb4)
  clear hb4
  obtain ⟨a0, a1, a2, a3, a4, a5, a6, a7⟩ := HM1.out.cells
  go_wp2
  go_ret
  have := items_fin (r := r) (n := rn) (⟨World.ownsRow_nil _ _ _ _, Below.refl _ _⟩ : ItAt w4 w4 [] 0 (.slice none 0 0)) rfl HR.out HRN.out
  obtain ⟨A9, c9, h91, h92, h93, h94⟩ := this
  exact ⟨A9, c9, h91, h92, h93, bcall HB2.out h94⟩
set_option maxRecDepth 100000 in
set_option maxHeartbeats 4000000 in
theorem ritems_Bok (p s c b t x u : Int) (v : Value) (m : List Int) (base n : Int) (w : World) (h : Cells w v m) (hm : AllU m) (hbig : m.length * 8 ≤ 140737488351232) (hbase : I6 base) (hn : I6 n) (q fr to T d mm : Int) (hq : s64 (base + 1) = q) (hf : loadF m base = fr) (hto : loadF m q = to) (hmm : min (max n 1) 64 = mm)
    (q2 : (u == 0) = false) (hT : to = T) (hE : endF m base ⟨2, p, s, c, b, t, x, u⟩ = T) (hd : w64 (T - fr) = d) (D : Nat) (hD : d = D) (hD1 : 0 < D) (hD2 : d ≤ mm) (r : List Int) (hr : itemsF m base n ⟨2, p, s, c, b, t, x, u⟩ = r) (rn : Nat) (hrn : r.length = rn) :
    Calls Try.prog 16 #[v, .int .i64 base, .int .i64 n, mvv 2 p s c b t x u] w (ItemsEnd w r rn) := by
  obtain ⟨w1, e1, hb1, M1⟩ := rbox_one w 2 p s c b t x u
  have HMB := hide M1
  have HC := hide (h.below hb1)
  have e4 : IntKind.i64.wrap (base + 1) = q := by rw [wrap_s]; exact hq
  have e5 : wrap64 (base + 1) = q := by rw [wrap64_s]; exact hq
  have HF := hide hf
  have HTO := hide hto
  obtain ⟨w2, e2, hb2, M2⟩ := rbox_one w1 0 0 base n 0 0 0 0
  have HE2 := hide e2
  have HM1 := hide (HMB.out.below hb2)
  have HM2 := hide M2
  have HC2 := hide (HC.out.below hb2)
  have HB2 := hide (bcall hb1 hb2)
  have HBG := hide hbig
  have HNN := hide hn
  have HRN := hide hrn
  have HHM := hide hm
  have HHB := hide hbase
  have e7 : IntKind.u64.wrap (T - fr) = d := by rw [wrap_w]; exact hd
  have hmm1 : 1 ≤ mm ∧ mm ≤ 64 := by omega
  have e10 : IntKind.u64.wrap mm = mm := by rw [wrap_w]; exact w64_small (by omega) (by omega)
  have hUT : U T := by rw [← hT, ← hto]; exact load_U hm _
  have h64 : D ≤ 64 := by omega
  have hfU := load_U hm base
  rw [hf] at hfU
  have HR := hide (show r = ((plL fr base n D).map (loadF m)).map s64 by rw [← hr]; exact items_fit hf hE hd (by rw [hmm]; exact hD2) D hD)
  have HGE := hide (go_end hUT hd D hD)
  have HFR := hide (show w64 (fr + ((0 : Nat) : Int)) = fr by unfold U at hfU; rw [show fr + ((0 : Nat) : Int) = fr by simp]; exact w64_small hfU.1 hfU.2)
  have HGN := hide (fun (j : Nat) (hj : j < D) => go_ne hUT hd hD h64 hj)
  have HGL := hide (fun (j : Nat) (hj : j ≤ D) => go_left hUT hd hD hj h64)
  have e8 : IntKind.i64.wrap d = d := by rw [wrap_s]; exact s64_small (by omega) (by omega)
  have e9 : wrap64 d = d := by rw [wrap64_s]; exact s64_small (by omega) (by omega)
  have d1 : decide (d ≤ 0) = false := decide_eq_false (by omega)
  have d2 : decide (mm < d) = false := decide_eq_false (by omega)
  clear hUT hfU
  clear hb1 hb2 M1 M2 hf hto hbig hn hE hq hd hrn hr h hm hbase
  subst hT
  go_enter Try.func16, Try.ntmps16
  go_upto_region 1 with (fail)
  clear e1 e2
  go_wp2_with fail
  rw [HE2.out]
  (with_reducible refine (rload_any _ m base fr HF.out _ HC2.out HBG.out).mono ?_)
  rintro e w3 ⟨rfl, hb3⟩
  have HM1 := hide (HM1.out.below hb3)
  have HM2 := hide (HM2.out.below hb3)
  have HC2 := hide (HC2.out.below hb3)
  have HB2 := hide (bcall HB2.out hb3)
  clear hb3
  go_wp2_with fail
  (with_reducible refine (rload_any _ m q to HTO.out _ HC2.out HBG.out).mono ?_)
  rintro e w4 ⟨rfl, hb4⟩
  have HM1 := hide (HM1.out.below hb4)
  have HM2 := hide (HM2.out.below hb4)
  have HC2 := hide (HC2.out.below hb4)
  have HB2 := hide (bcall HB2.out hb4)
  clear hb4
  obtain ⟨a0, a1, a2, a3, a4, a5, a6, a7⟩ := HM1.out.cells
  obtain ⟨i0, hi, hz0, hz1, hz2⟩ := info_parts infoI
  go_wp2
  go_loopw [13, 14] (fun ov iv wr => ∃ j : Nat, j ≤ D ∧ iv = .int .u64 (w64 (fr + (j : Nat))) ∧ Hid (ItAt w4 wr (((plL fr base n j).map (loadF m)).map s64) j ov)) (fun _ iv _ => (w64 (to - Go.RowKit.intOf iv)).toNat)
  case atStart => exact ⟨0, Nat.zero_le _, by rw [HFR.out], hide ⟨World.ownsRow_nil _ _ _ _, Below.refl _ _⟩⟩
  case round =>
    obtain ⟨j, hj, rfl, HA⟩ := hrel
    obtain ⟨iv, hiv⟩ : ∃ iv, w64 (fr + (j : Nat)) = iv := ⟨_, rfl⟩
    have HIV := hide hiv
    rw [hiv]
    have hsz := HA.out.below.size
    by_cases hlt : j < D
    · have q0 : (iv != to) = true := by rw [bne_iff_ne, ← hiv]; exact HGN.out j hlt
      obtain ⟨pq, hpq⟩ : ∃ pq, plF fr base n j = pq := ⟨_, rfl⟩
      have HPQ := hide (show s64 (base + 2 + iv % max n 1) = pq by rw [← hiv]; exact hpq)
      have HU := hide (show U iv by rw [← hiv]; exact w64_U' _)
      obtain ⟨y, hy⟩ : ∃ y, loadF m pq = y := ⟨_, rfl⟩
      have HY := hide hy
      obtain ⟨y1, hy1⟩ : ∃ y1, s64 y = y1 := ⟨_, rfl⟩
      have HPL := hide (show ((plL fr base n (j + 1)).map (loadF m)).map s64 = ((plL fr base n j).map (loadF m)).map s64 ++ [y1] by rw [plL_succ, List.map_append, List.map_append, hpq]; simp [hy, hy1])
      have e11 : IntKind.i64.wrap y = y1 := by rw [wrap_s]; exact hy1
      have e12 : wrap64 y = y1 := by rw [wrap64_s]; exact hy1
      obtain ⟨iv2, hiv2⟩ : ∃ iv2, w64 (iv + 1) = iv2 := ⟨_, rfl⟩
      have e13 : IntKind.u64.wrap (iv + 1) = iv2 := by rw [wrap_w]; exact hiv2
      have HNX := hide (show w64 (fr + ((j + 1 : Nat) : Int)) = iv2 by rw [← hiv2, ← hiv]; exact (go_next fr j).symm)
      have HDB := hide (HM2.out.below HA.out.below)
      obtain ⟨z0, z1, z2, z3, z4, z5, z6, z7⟩ := HDB.out.cells
      have HCA := hide (HC2.out.below HA.out.below)
      clear hpq hiv hiv2 hy hy1
      go_wp2_with fail
      (with_reducible refine (rplace_any 0 0 base n 0 0 0 0 iv pq HNN.out HU.out HPQ.out _).mono ?_)
      rintro e w6 ⟨rfl, hb6⟩
      have HCA := hide (HCA.out.below hb6)
      go_wp2_with fail
      (with_reducible refine (rload_any _ m pq y HY.out _ HCA.out HBG.out).mono ?_)
      rintro e w7 ⟨rfl, hb7⟩
      have HOW := hide (own_below (own_below HA.out.own hb6) hb7)
      have HBW := hide (bcall (bcall HA.out.below hb6) hb7)
      have hsz7 := HBW.out.size
      clear hb6 hb7
      go_wp2_with (at_builtin; refine wpList_append_own _ rfl _ _ 34 rfl w4.heap.size 3 i0 (.int .i64 0) 1 8 Try.underlying34 hi hz0 hz1 hz2 rfl (by decide) _ _ _ rfl (HOW.out.alloc _) ⟨_, 0, none⟩ 1 1 [.int .i64 y1] rfl rfl (row_at _ _ _ (by simp)) (by simp [Value.oneCell']) (by simp only [maxLen]; omega) (by omega) (by simp; omega) ?_; intro h'' w9 hown' hgrow _)
      go_roundw
      case rel =>
        refine ⟨j + 1, by omega, by rw [HNX.out], hide ⟨?_, ?_⟩⟩
        · rw [HPL.out, List.flatMap_append]; exact hown'
        · exact (HBW.out.alloc hsz7 _).grown hgrow (by simp; omega) (own_ge HOW.out)
      case measure =>
        show (w64 (to - iv2)).toNat < (w64 (to - iv)).toNat
        have ha := HGL.out j (by omega)
        have hb := HGL.out (j + 1) (by omega)
        rw [HIV.out] at ha
        rw [HNX.out] at hb
        omega
    · have hjD : j = D := by omega
      obtain rfl : iv = to := by rw [← hiv, hjD]; exact HGE.out
      have q0 : (iv != iv) = false := by simp
      clear hiv
      go_wp2
      go_ret
      have := items_fin (r := r) (n := rn) HA.out (by rw [List.length_map, List.length_map, plL_len]) (by rw [HR.out, hjD]) HRN.out
      obtain ⟨A9, c9, h91, h92, h93, h94⟩ := this
      exact ⟨A9, c9, h91, h92, h93, bcall HB2.out h94⟩
theorem ritems_B (p s c b t x u : Int) (v : Value) (m : List Int) (base n : Int) (w : World) (h : Cells w v m) (hm : AllU m) (hbig : m.length * 8 ≤ 140737488351232) (hbase : I6 base) (hn : I6 n)
    (q2 : (u == 0) = false) (hx : extF ⟨2, p, s, c, b, t, x, u⟩ = false) (r : List Int) (hr : itemsF m base n ⟨2, p, s, c, b, t, x, u⟩ = r) (rn : Nat) (hrn : r.length = rn) :
    Calls Try.prog 16 #[v, .int .i64 base, .int .i64 n, mvv 2 p s c b t x u] w (ItemsEnd w r rn) := by
  by_cases hc : s64 ((loadF m (s64 (base + 1))) - loadF m base) ≤ 0
  · exact ritems_Bn1 p s c b t x u v m base n w h hm hbig hbase hn _ _ _ _ _ _ rfl rfl rfl rfl q2 rfl (end_no rfl rfl (load_U hm _) hx) rfl _ rfl hc r hr rn hrn
  · by_cases hc2 : min (max n 1) 64 < w64 ((loadF m (s64 (base + 1))) - loadF m base)
    · exact ritems_Bn2 p s c b t x u v m base n w h hm hbig hbase hn _ _ _ _ _ _ rfl rfl rfl rfl q2 rfl (end_no rfl rfl (load_U hm _) hx) rfl _ rfl hc hc2 r hr rn hrn
    · have h0 := (w64_U' ((loadF m (s64 (base + 1))) - loadF m base)).1
      have h1 : w64 ((loadF m (s64 (base + 1))) - loadF m base) ≠ 0 := fun e => hc (by rw [← s64_w64, e]; decide)
      exact ritems_Bok p s c b t x u v m base n w h hm hbig hbase hn _ _ _ _ _ _ rfl rfl rfl rfl q2 rfl (end_no rfl rfl (load_U hm _) hx) rfl _ (Int.toNat_of_nonneg h0).symm (by omega) (by omega) r hr rn hrn
end Go.Proofs.Ytimjlgglhonhkaa
/- Layer deque, the document's answer: Items, by the owner's cases. -/
namespace Go.Proofs.Ytimjlgglhonhkaa
open Go.RowKit

set_option maxRecDepth 100000 in
set_option maxHeartbeats 4000000 in
theorem ritems_C2n1 (s c b t x : Int) (v : Value) (m : List Int) (base n : Int) (w : World) (h : Cells w v m) (hm : AllU m) (hbig : m.length * 8 ≤ 140737488351232) (hbase : I6 base) (hn : I6 n) (q fr to T d mm : Int) (hq : s64 (base + 1) = q) (hf : loadF m base = fr) (hto : loadF m q = to) (hmm : min (max n 1) 64 = mm)
     (hT : w64 (to + 1) = T) (hE : endF m base ⟨2, 2, s, c, b, t, x, 0⟩ = T) (hd : w64 (T - fr) = d) (ds : Int) (hds : s64 (T - fr) = ds) (hc : ds ≤ 0) (r : List Int) (hr : itemsF m base n ⟨2, 2, s, c, b, t, x, 0⟩ = r) (rn : Nat) (hrn : r.length = rn) :
    Calls Try.prog 16 #[v, .int .i64 base, .int .i64 n, mvv 2 2 s c b t x 0] w (ItemsEnd w r rn) := by
  obtain ⟨w1, e1, hb1, M1⟩ := rbox_one w 2 2 s c b t x 0
  have HMB := hide M1
  have HC := hide (h.below hb1)
  have e4 : IntKind.i64.wrap (base + 1) = q := by rw [wrap_s]; exact hq
  have e5 : wrap64 (base + 1) = q := by rw [wrap64_s]; exact hq
  have HF := hide hf
  have HTO := hide hto
  obtain ⟨w2, e2, hb2, M2⟩ := rbox_one w1 0 0 base n 0 0 0 0
  have HE2 := hide e2
  have HM1 := hide (HMB.out.below hb2)
  have HM2 := hide M2
  have HC2 := hide (HC.out.below hb2)
  have HB2 := hide (bcall hb1 hb2)
  have HBG := hide hbig
  have HNN := hide hn
  have HRN := hide hrn
  have HHM := hide hm
  have HHB := hide hbase
  have e7 : IntKind.u64.wrap (T - fr) = d := by rw [wrap_w]; exact hd
  have hmm1 : 1 ≤ mm ∧ mm ≤ 64 := by omega
  have e10 : IntKind.u64.wrap mm = mm := by rw [wrap_w]; exact w64_small (by omega) (by omega)
  have e6 : IntKind.u64.wrap (to + 1) = T := by rw [wrap_w]; exact hT
  have e8 : IntKind.i64.wrap d = ds := by rw [wrap_s, ← hd, s64_w64]; exact hds
  have e9 : wrap64 d = ds := by rw [wrap64_s, ← hd, s64_w64]; exact hds
  have HR := hide (show r = [] by
    rw [← hr]; unfold itemsF; simp only [hE, hf, hd, hds, hmm]; rw [if_pos (.inl hc)])
  have d1 : decide (ds ≤ 0) = true := decide_eq_true hc
  clear hb1 hb2 M1 M2 hf hto hbig hn hE hq hd hrn hr h hm hbase hds
  clear hT
  go_enter Try.func16, Try.ntmps16
  go_upto_region 1 with (fail)
  clear e1 e2
  go_wp2_with fail
  rw [HE2.out]
  (with_reducible refine (rload_any _ m base fr HF.out _ HC2.out HBG.out).mono ?_)
  rintro e w3 ⟨rfl, hb3⟩
  have HM1 := hide (HM1.out.below hb3)
  have HM2 := hide (HM2.out.below hb3)
  have HC2 := hide (HC2.out.below hb3)
  have HB2 := hide (bcall HB2.out hb3)
  clear hb3
  go_wp2_with fail
  (with_reducible refine (rload_any _ m q to HTO.out _ HC2.out HBG.out).mono ?_)
  rintro e w4 ⟨rfl, hb4⟩
  have HM1 := hide (HM1.out.below hb4)
  have HM2 := hide (HM2.out.below hb4)
  have HC2 := hide (HC2.out.below hb4)
  have HB2 := hide (bcall HB2.out hb4)
  clear hb4
  obtain ⟨a0, a1, a2, a3, a4, a5, a6, a7⟩ := HM1.out.cells
  go_wp2
  go_ret
  have := items_fin (r := r) (n := rn) (⟨World.ownsRow_nil _ _ _ _, Below.refl _ _⟩ : ItAt w4 w4 [] 0 (.slice none 0 0)) rfl HR.out HRN.out
  obtain ⟨A9, c9, h91, h92, h93, h94⟩ := this
  exact ⟨A9, c9, h91, h92, h93, bcall HB2.out h94⟩
set_option maxRecDepth 100000 in
set_option maxHeartbeats 4000000 in
theorem ritems_C2n2 (s c b t x : Int) (v : Value) (m : List Int) (base n : Int) (w : World) (h : Cells w v m) (hm : AllU m) (hbig : m.length * 8 ≤ 140737488351232) (hbase : I6 base) (hn : I6 n) (q fr to T d mm : Int) (hq : s64 (base + 1) = q) (hf : loadF m base = fr) (hto : loadF m q = to) (hmm : min (max n 1) 64 = mm)
     (hT : w64 (to + 1) = T) (hE : endF m base ⟨2, 2, s, c, b, t, x, 0⟩ = T) (hd : w64 (T - fr) = d) (ds : Int) (hds : s64 (T - fr) = ds) (hc : ¬ ds ≤ 0) (hc2 : mm < d) (r : List Int) (hr : itemsF m base n ⟨2, 2, s, c, b, t, x, 0⟩ = r) (rn : Nat) (hrn : r.length = rn) :
    Calls Try.prog 16 #[v, .int .i64 base, .int .i64 n, mvv 2 2 s c b t x 0] w (ItemsEnd w r rn) := by
  obtain ⟨w1, e1, hb1, M1⟩ := rbox_one w 2 2 s c b t x 0
  have HMB := hide M1
  have HC := hide (h.below hb1)
  have e4 : IntKind.i64.wrap (base + 1) = q := by rw [wrap_s]; exact hq
  have e5 : wrap64 (base + 1) = q := by rw [wrap64_s]; exact hq
  have HF := hide hf
  have HTO := hide hto
  obtain ⟨w2, e2, hb2, M2⟩ := rbox_one w1 0 0 base n 0 0 0 0
  have HE2 := hide e2
  have HM1 := hide (HMB.out.below hb2)
  have HM2 := hide M2
  have HC2 := hide (HC.out.below hb2)
  have HB2 := hide (bcall hb1 hb2)
  have HBG := hide hbig
  have HNN := hide hn
  have HRN := hide hrn
  have HHM := hide hm
  have HHB := hide hbase
  have e7 : IntKind.u64.wrap (T - fr) = d := by rw [wrap_w]; exact hd
  have hmm1 : 1 ≤ mm ∧ mm ≤ 64 := by omega
  have e10 : IntKind.u64.wrap mm = mm := by rw [wrap_w]; exact w64_small (by omega) (by omega)
  have e6 : IntKind.u64.wrap (to + 1) = T := by rw [wrap_w]; exact hT
  have e8 : IntKind.i64.wrap d = ds := by rw [wrap_s, ← hd, s64_w64]; exact hds
  have e9 : wrap64 d = ds := by rw [wrap64_s, ← hd, s64_w64]; exact hds
  have HR := hide (show r = [] by
    rw [← hr]; unfold itemsF; simp only [hE, hf, hd, hds, hmm]; rw [if_pos (.inr hc2)])
  have d1 : decide (ds ≤ 0) = false := decide_eq_false hc
  have d2 : decide (mm < d) = true := decide_eq_true hc2
  clear hb1 hb2 M1 M2 hf hto hbig hn hE hq hd hrn hr h hm hbase hds
  clear hT
  go_enter Try.func16, Try.ntmps16
  go_upto_region 1 with (fail)
  clear e1 e2
  go_wp2_with fail
  rw [HE2.out]
  (with_reducible refine (rload_any _ m base fr HF.out _ HC2.out HBG.out).mono ?_)
  rintro e w3 ⟨rfl, hb3⟩
  have HM1 := hide (HM1.out.below hb3)
  have HM2 := hide (HM2.out.below hb3)
  have HC2 := hide (HC2.out.below hb3)
  have HB2 := hide (bcall HB2.out hb3)
  clear hb3
  go_wp2_with fail
  (with_reducible refine (rload_any _ m q to HTO.out _ HC2.out HBG.out).mono ?_)
  rintro e w4 ⟨rfl, hb4⟩
  have HM1 := hide (HM1.out.below hb4)
  have HM2 := hide (HM2.out.below hb4)
  have HC2 := hide (HC2.out.below hb4)
  have HB2 := hide (bcall HB2.out hb4)
  clear hb4
  obtain ⟨a0, a1, a2, a3, a4, a5, a6, a7⟩ := HM1.out.cells
  go_wp2
  go_ret
  have := items_fin (r := r) (n := rn) (⟨World.ownsRow_nil _ _ _ _, Below.refl _ _⟩ : ItAt w4 w4 [] 0 (.slice none 0 0)) rfl HR.out HRN.out
  obtain ⟨A9, c9, h91, h92, h93, h94⟩ := this
  exact ⟨A9, c9, h91, h92, h93, bcall HB2.out h94⟩
set_option maxRecDepth 100000 in
set_option maxHeartbeats 4000000 in
theorem ritems_C2ok (s c b t x : Int) (v : Value) (m : List Int) (base n : Int) (w : World) (h : Cells w v m) (hm : AllU m) (hbig : m.length * 8 ≤ 140737488351232) (hbase : I6 base) (hn : I6 n) (q fr to T d mm : Int) (hq : s64 (base + 1) = q) (hf : loadF m base = fr) (hto : loadF m q = to) (hmm : min (max n 1) 64 = mm)
     (hT : w64 (to + 1) = T) (hE : endF m base ⟨2, 2, s, c, b, t, x, 0⟩ = T) (hd : w64 (T - fr) = d) (D : Nat) (hD : d = D) (hD1 : 0 < D) (hD2 : d ≤ mm) (r : List Int) (hr : itemsF m base n ⟨2, 2, s, c, b, t, x, 0⟩ = r) (rn : Nat) (hrn : r.length = rn) :
    Calls Try.prog 16 #[v, .int .i64 base, .int .i64 n, mvv 2 2 s c b t x 0] w (ItemsEnd w r rn) := by
  obtain ⟨w1, e1, hb1, M1⟩ := rbox_one w 2 2 s c b t x 0
  have HMB := hide M1
  have HC := hide (h.below hb1)
  have e4 : IntKind.i64.wrap (base + 1) = q := by rw [wrap_s]; exact hq
  have e5 : wrap64 (base + 1) = q := by rw [wrap64_s]; exact hq
  have HF := hide hf
  have HTO := hide hto
  obtain ⟨w2, e2, hb2, M2⟩ := rbox_one w1 0 0 base n 0 0 0 0
  have HE2 := hide e2
  have HM1 := hide (HMB.out.below hb2)
  have HM2 := hide M2
  have HC2 := hide (HC.out.below hb2)
  have HB2 := hide (bcall hb1 hb2)
  have HBG := hide hbig
  have HNN := hide hn
  have HRN := hide hrn
  have HHM := hide hm
  have HHB := hide hbase
  have e7 : IntKind.u64.wrap (T - fr) = d := by rw [wrap_w]; exact hd
  have hmm1 : 1 ≤ mm ∧ mm ≤ 64 := by omega
  have e10 : IntKind.u64.wrap mm = mm := by rw [wrap_w]; exact w64_small (by omega) (by omega)
  have e6 : IntKind.u64.wrap (to + 1) = T := by rw [wrap_w]; exact hT
  have hUT : U T := by rw [← hT]; exact w64_U' _
  have h64 : D ≤ 64 := by omega
  have hfU := load_U hm base
  rw [hf] at hfU
  have HR := hide (show r = ((plL fr base n D).map (loadF m)).map s64 by rw [← hr]; exact items_fit hf hE hd (by rw [hmm]; exact hD2) D hD)
  have HGE := hide (go_end hUT hd D hD)
  have HFR := hide (show w64 (fr + ((0 : Nat) : Int)) = fr by unfold U at hfU; rw [show fr + ((0 : Nat) : Int) = fr by simp]; exact w64_small hfU.1 hfU.2)
  have HGN := hide (fun (j : Nat) (hj : j < D) => go_ne hUT hd hD h64 hj)
  have HGL := hide (fun (j : Nat) (hj : j ≤ D) => go_left hUT hd hD hj h64)
  have e8 : IntKind.i64.wrap d = d := by rw [wrap_s]; exact s64_small (by omega) (by omega)
  have e9 : wrap64 d = d := by rw [wrap64_s]; exact s64_small (by omega) (by omega)
  have d1 : decide (d ≤ 0) = false := decide_eq_false (by omega)
  have d2 : decide (mm < d) = false := decide_eq_false (by omega)
  clear hUT hfU
  clear hb1 hb2 M1 M2 hf hto hbig hn hE hq hd hrn hr h hm hbase
  clear hT
  go_enter Try.func16, Try.ntmps16
  go_upto_region 1 with (fail)
  clear e1 e2
  go_wp2_with fail
  rw [HE2.out]
  (with_reducible refine (rload_any _ m base fr HF.out _ HC2.out HBG.out).mono ?_)
  rintro e w3 ⟨rfl, hb3⟩
  have HM1 := hide (HM1.out.below hb3)
  have HM2 := hide (HM2.out.below hb3)
  have HC2 := hide (HC2.out.below hb3)
  have HB2 := hide (bcall HB2.out hb3)
  clear hb3
  go_wp2_with fail
  (with_reducible refine (rload_any _ m q to HTO.out _ HC2.out HBG.out).mono ?_)
  rintro e w4 ⟨rfl, hb4⟩
  have HM1 := hide (HM1.out.below hb4)
  have HM2 := hide (HM2.out.below hb4)
  have HC2 := hide (HC2.out.below hb4)
  have HB2 := hide (bcall HB2.out hb4)
  clear hb4
  obtain ⟨a0, a1, a2, a3, a4, a5, a6, a7⟩ := HM1.out.cells
  obtain ⟨i0, hi, hz0, hz1, hz2⟩ := info_parts infoI
  go_wp2
  go_loopw [13, 14] (fun ov iv wr => ∃ j : Nat, j ≤ D ∧ iv = .int .u64 (w64 (fr + (j : Nat))) ∧ Hid (ItAt w4 wr (((plL fr base n j).map (loadF m)).map s64) j ov)) (fun _ iv _ => (w64 (T - Go.RowKit.intOf iv)).toNat)
  case atStart => exact ⟨0, Nat.zero_le _, by rw [HFR.out], hide ⟨World.ownsRow_nil _ _ _ _, Below.refl _ _⟩⟩
  case round =>
    obtain ⟨j, hj, rfl, HA⟩ := hrel
    obtain ⟨iv, hiv⟩ : ∃ iv, w64 (fr + (j : Nat)) = iv := ⟨_, rfl⟩
    have HIV := hide hiv
    rw [hiv]
    have hsz := HA.out.below.size
    by_cases hlt : j < D
    · have q0 : (iv != T) = true := by rw [bne_iff_ne, ← hiv]; exact HGN.out j hlt
      obtain ⟨pq, hpq⟩ : ∃ pq, plF fr base n j = pq := ⟨_, rfl⟩
      have HPQ := hide (show s64 (base + 2 + iv % max n 1) = pq by rw [← hiv]; exact hpq)
      have HU := hide (show U iv by rw [← hiv]; exact w64_U' _)
      obtain ⟨y, hy⟩ : ∃ y, loadF m pq = y := ⟨_, rfl⟩
      have HY := hide hy
      obtain ⟨y1, hy1⟩ : ∃ y1, s64 y = y1 := ⟨_, rfl⟩
      have HPL := hide (show ((plL fr base n (j + 1)).map (loadF m)).map s64 = ((plL fr base n j).map (loadF m)).map s64 ++ [y1] by rw [plL_succ, List.map_append, List.map_append, hpq]; simp [hy, hy1])
      have e11 : IntKind.i64.wrap y = y1 := by rw [wrap_s]; exact hy1
      have e12 : wrap64 y = y1 := by rw [wrap64_s]; exact hy1
      obtain ⟨iv2, hiv2⟩ : ∃ iv2, w64 (iv + 1) = iv2 := ⟨_, rfl⟩
      have e13 : IntKind.u64.wrap (iv + 1) = iv2 := by rw [wrap_w]; exact hiv2
      have HNX := hide (show w64 (fr + ((j + 1 : Nat) : Int)) = iv2 by rw [← hiv2, ← hiv]; exact (go_next fr j).symm)
      have HDB := hide (HM2.out.below HA.out.below)
      obtain ⟨z0, z1, z2, z3, z4, z5, z6, z7⟩ := HDB.out.cells
      have HCA := hide (HC2.out.below HA.out.below)
      clear hpq hiv hiv2 hy hy1
      go_wp2_with fail
      (with_reducible refine (rplace_any 0 0 base n 0 0 0 0 iv pq HNN.out HU.out HPQ.out _).mono ?_)
      rintro e w6 ⟨rfl, hb6⟩
      have HCA := hide (HCA.out.below hb6)
      go_wp2_with fail
      (with_reducible refine (rload_any _ m pq y HY.out _ HCA.out HBG.out).mono ?_)
      rintro e w7 ⟨rfl, hb7⟩
      have HOW := hide (own_below (own_below HA.out.own hb6) hb7)
      have HBW := hide (bcall (bcall HA.out.below hb6) hb7)
      have hsz7 := HBW.out.size
      clear hb6 hb7
      go_wp2_with (at_builtin; refine wpList_append_own _ rfl _ _ 34 rfl w4.heap.size 3 i0 (.int .i64 0) 1 8 Try.underlying34 hi hz0 hz1 hz2 rfl (by decide) _ _ _ rfl (HOW.out.alloc _) ⟨_, 0, none⟩ 1 1 [.int .i64 y1] rfl rfl (row_at _ _ _ (by simp)) (by simp [Value.oneCell']) (by simp only [maxLen]; omega) (by omega) (by simp; omega) ?_; intro h'' w9 hown' hgrow _)
      go_roundw
      case rel =>
        refine ⟨j + 1, by omega, by rw [HNX.out], hide ⟨?_, ?_⟩⟩
        · rw [HPL.out, List.flatMap_append]; exact hown'
        · exact (HBW.out.alloc hsz7 _).grown hgrow (by simp; omega) (own_ge HOW.out)
      case measure =>
        show (w64 (T - iv2)).toNat < (w64 (T - iv)).toNat
        have ha := HGL.out j (by omega)
        have hb := HGL.out (j + 1) (by omega)
        rw [HIV.out] at ha
        rw [HNX.out] at hb
        omega
    · have hjD : j = D := by omega
      obtain rfl : iv = T := by rw [← hiv, hjD]; exact HGE.out
      have q0 : (iv != iv) = false := by simp
      clear hiv
      go_wp2
      go_ret
      have := items_fin (r := r) (n := rn) HA.out (by rw [List.length_map, List.length_map, plL_len]) (by rw [HR.out, hjD]) HRN.out
      obtain ⟨A9, c9, h91, h92, h93, h94⟩ := this
      exact ⟨A9, c9, h91, h92, h93, bcall HB2.out h94⟩
theorem ritems_C2 (s c b t x : Int) (v : Value) (m : List Int) (base n : Int) (w : World) (h : Cells w v m) (hm : AllU m) (hbig : m.length * 8 ≤ 140737488351232) (hbase : I6 base) (hn : I6 n)
     (hx : extF ⟨2, 2, s, c, b, t, x, 0⟩ = true) (r : List Int) (hr : itemsF m base n ⟨2, 2, s, c, b, t, x, 0⟩ = r) (rn : Nat) (hrn : r.length = rn) :
    Calls Try.prog 16 #[v, .int .i64 base, .int .i64 n, mvv 2 2 s c b t x 0] w (ItemsEnd w r rn) := by
  by_cases hc : s64 ((w64 (loadF m (s64 (base + 1)) + 1)) - loadF m base) ≤ 0
  · exact ritems_C2n1 s c b t x v m base n w h hm hbig hbase hn _ _ _ _ _ _ rfl rfl rfl rfl  rfl (end_yes rfl rfl hx) rfl _ rfl hc r hr rn hrn
  · by_cases hc2 : min (max n 1) 64 < w64 ((w64 (loadF m (s64 (base + 1)) + 1)) - loadF m base)
    · exact ritems_C2n2 s c b t x v m base n w h hm hbig hbase hn _ _ _ _ _ _ rfl rfl rfl rfl  rfl (end_yes rfl rfl hx) rfl _ rfl hc hc2 r hr rn hrn
    · have h0 := (w64_U' ((w64 (loadF m (s64 (base + 1)) + 1)) - loadF m base)).1
      have h1 : w64 ((w64 (loadF m (s64 (base + 1)) + 1)) - loadF m base) ≠ 0 := fun e => hc (by rw [← s64_w64, e]; decide)
      exact ritems_C2ok s c b t x v m base n w h hm hbig hbase hn _ _ _ _ _ _ rfl rfl rfl rfl  rfl (end_yes rfl rfl hx) rfl _ (Int.toNat_of_nonneg h0).symm (by omega) (by omega) r hr rn hrn
set_option maxRecDepth 100000 in
set_option maxHeartbeats 4000000 in
theorem ritems_C4n1 (s c b t x : Int) (v : Value) (m : List Int) (base n : Int) (w : World) (h : Cells w v m) (hm : AllU m) (hbig : m.length * 8 ≤ 140737488351232) (hbase : I6 base) (hn : I6 n) (q fr to T d mm : Int) (hq : s64 (base + 1) = q) (hf : loadF m base = fr) (hto : loadF m q = to) (hmm : min (max n 1) 64 = mm)
     (hT : w64 (to + 1) = T) (hE : endF m base ⟨2, 4, s, c, b, t, x, 0⟩ = T) (hd : w64 (T - fr) = d) (ds : Int) (hds : s64 (T - fr) = ds) (hc : ds ≤ 0) (r : List Int) (hr : itemsF m base n ⟨2, 4, s, c, b, t, x, 0⟩ = r) (rn : Nat) (hrn : r.length = rn) :
    Calls Try.prog 16 #[v, .int .i64 base, .int .i64 n, mvv 2 4 s c b t x 0] w (ItemsEnd w r rn) := by
  obtain ⟨w1, e1, hb1, M1⟩ := rbox_one w 2 4 s c b t x 0
  have HMB := hide M1
  have HC := hide (h.below hb1)
  have e4 : IntKind.i64.wrap (base + 1) = q := by rw [wrap_s]; exact hq
  have e5 : wrap64 (base + 1) = q := by rw [wrap64_s]; exact hq
  have HF := hide hf
  have HTO := hide hto
  obtain ⟨w2, e2, hb2, M2⟩ := rbox_one w1 0 0 base n 0 0 0 0
  have HE2 := hide e2
  have HM1 := hide (HMB.out.below hb2)
  have HM2 := hide M2
  have HC2 := hide (HC.out.below hb2)
  have HB2 := hide (bcall hb1 hb2)
  have HBG := hide hbig
  have HNN := hide hn
  have HRN := hide hrn
  have HHM := hide hm
  have HHB := hide hbase
  have e7 : IntKind.u64.wrap (T - fr) = d := by rw [wrap_w]; exact hd
  have hmm1 : 1 ≤ mm ∧ mm ≤ 64 := by omega
  have e10 : IntKind.u64.wrap mm = mm := by rw [wrap_w]; exact w64_small (by omega) (by omega)
  have e6 : IntKind.u64.wrap (to + 1) = T := by rw [wrap_w]; exact hT
  have e8 : IntKind.i64.wrap d = ds := by rw [wrap_s, ← hd, s64_w64]; exact hds
  have e9 : wrap64 d = ds := by rw [wrap64_s, ← hd, s64_w64]; exact hds
  have HR := hide (show r = [] by
    rw [← hr]; unfold itemsF; simp only [hE, hf, hd, hds, hmm]; rw [if_pos (.inl hc)])
  have d1 : decide (ds ≤ 0) = true := decide_eq_true hc
  clear hb1 hb2 M1 M2 hf hto hbig hn hE hq hd hrn hr h hm hbase hds
  clear hT
  go_enter Try.func16, Try.ntmps16
  go_upto_region 1 with (fail)
  clear e1 e2
  go_wp2_with fail
  rw [HE2.out]
  (with_reducible refine (rload_any _ m base fr HF.out _ HC2.out HBG.out).mono ?_)
  rintro e w3 ⟨rfl, hb3⟩
  have HM1 := hide (HM1.out.below hb3)
  have HM2 := hide (HM2.out.below hb3)
  have HC2 := hide (HC2.out.below hb3)
  have HB2 := hide (bcall HB2.out hb3)
  clear hb3
  go_wp2_with fail
  (with_reducible refine (rload_any _ m q to HTO.out _ HC2.out HBG.out).mono ?_)
  rintro e w4 ⟨rfl, hb4⟩
  have HM1 := hide (HM1.out.below hb4)
  have HM2 := hide (HM2.out.below hb4)
  have HC2 := hide (HC2.out.below hb4)
  have HB2 := hide (bcall HB2.out hb4)
  clear hb4
  obtain ⟨a0, a1, a2, a3, a4, a5, a6, a7⟩ := HM1.out.cells
  go_wp2
  go_ret
  have := items_fin (r := r) (n := rn) (⟨World.ownsRow_nil _ _ _ _, Below.refl _ _⟩ : ItAt w4 w4 [] 0 (.slice none 0 0)) rfl HR.out HRN.out
  obtain ⟨A9, c9, h91, h92, h93, h94⟩ := this
  exact ⟨A9, c9, h91, h92, h93, bcall HB2.out h94⟩
set_option maxRecDepth 100000 in
set_option maxHeartbeats 4000000 in
theorem ritems_C4n2 (s c b t x : Int) (v : Value) (m : List Int) (base n : Int) (w : World) (h : Cells w v m) (hm : AllU m) (hbig : m.length * 8 ≤ 140737488351232) (hbase : I6 base) (hn : I6 n) (q fr to T d mm : Int) (hq : s64 (base + 1) = q) (hf : loadF m base = fr) (hto : loadF m q = to) (hmm : min (max n 1) 64 = mm)
     (hT : w64 (to + 1) = T) (hE : endF m base ⟨2, 4, s, c, b, t, x, 0⟩ = T) (hd : w64 (T - fr) = d) (ds : Int) (hds : s64 (T - fr) = ds) (hc : ¬ ds ≤ 0) (hc2 : mm < d) (r : List Int) (hr : itemsF m base n ⟨2, 4, s, c, b, t, x, 0⟩ = r) (rn : Nat) (hrn : r.length = rn) :
    Calls Try.prog 16 #[v, .int .i64 base, .int .i64 n, mvv 2 4 s c b t x 0] w (ItemsEnd w r rn) := by
  obtain ⟨w1, e1, hb1, M1⟩ := rbox_one w 2 4 s c b t x 0
  have HMB := hide M1
  have HC := hide (h.below hb1)
  have e4 : IntKind.i64.wrap (base + 1) = q := by rw [wrap_s]; exact hq
  have e5 : wrap64 (base + 1) = q := by rw [wrap64_s]; exact hq
  have HF := hide hf
  have HTO := hide hto
  obtain ⟨w2, e2, hb2, M2⟩ := rbox_one w1 0 0 base n 0 0 0 0
  have HE2 := hide e2
  have HM1 := hide (HMB.out.below hb2)
  have HM2 := hide M2
  have HC2 := hide (HC.out.below hb2)
  have HB2 := hide (bcall hb1 hb2)
  have HBG := hide hbig
  have HNN := hide hn
  have HRN := hide hrn
  have HHM := hide hm
  have HHB := hide hbase
  have e7 : IntKind.u64.wrap (T - fr) = d := by rw [wrap_w]; exact hd
  have hmm1 : 1 ≤ mm ∧ mm ≤ 64 := by omega
  have e10 : IntKind.u64.wrap mm = mm := by rw [wrap_w]; exact w64_small (by omega) (by omega)
  have e6 : IntKind.u64.wrap (to + 1) = T := by rw [wrap_w]; exact hT
  have e8 : IntKind.i64.wrap d = ds := by rw [wrap_s, ← hd, s64_w64]; exact hds
  have e9 : wrap64 d = ds := by rw [wrap64_s, ← hd, s64_w64]; exact hds
  have HR := hide (show r = [] by
    rw [← hr]; unfold itemsF; simp only [hE, hf, hd, hds, hmm]; rw [if_pos (.inr hc2)])
  have d1 : decide (ds ≤ 0) = false := decide_eq_false hc
  have d2 : decide (mm < d) = true := decide_eq_true hc2
  clear hb1 hb2 M1 M2 hf hto hbig hn hE hq hd hrn hr h hm hbase hds
  clear hT
  go_enter Try.func16, Try.ntmps16
  go_upto_region 1 with (fail)
  clear e1 e2
  go_wp2_with fail
  rw [HE2.out]
  (with_reducible refine (rload_any _ m base fr HF.out _ HC2.out HBG.out).mono ?_)
  rintro e w3 ⟨rfl, hb3⟩
  have HM1 := hide (HM1.out.below hb3)
  have HM2 := hide (HM2.out.below hb3)
  have HC2 := hide (HC2.out.below hb3)
  have HB2 := hide (bcall HB2.out hb3)
  clear hb3
  go_wp2_with fail
  (with_reducible refine (rload_any _ m q to HTO.out _ HC2.out HBG.out).mono ?_)
  rintro e w4 ⟨rfl, hb4⟩
  have HM1 := hide (HM1.out.below hb4)
  have HM2 := hide (HM2.out.below hb4)
  have HC2 := hide (HC2.out.below hb4)
  have HB2 := hide (bcall HB2.out hb4)
  clear hb4
  obtain ⟨a0, a1, a2, a3, a4, a5, a6, a7⟩ := HM1.out.cells
  go_wp2
  go_ret
  have := items_fin (r := r) (n := rn) (⟨World.ownsRow_nil _ _ _ _, Below.refl _ _⟩ : ItAt w4 w4 [] 0 (.slice none 0 0)) rfl HR.out HRN.out
  obtain ⟨A9, c9, h91, h92, h93, h94⟩ := this
  exact ⟨A9, c9, h91, h92, h93, bcall HB2.out h94⟩
set_option maxRecDepth 100000 in
set_option maxHeartbeats 4000000 in
theorem ritems_C4ok (s c b t x : Int) (v : Value) (m : List Int) (base n : Int) (w : World) (h : Cells w v m) (hm : AllU m) (hbig : m.length * 8 ≤ 140737488351232) (hbase : I6 base) (hn : I6 n) (q fr to T d mm : Int) (hq : s64 (base + 1) = q) (hf : loadF m base = fr) (hto : loadF m q = to) (hmm : min (max n 1) 64 = mm)
     (hT : w64 (to + 1) = T) (hE : endF m base ⟨2, 4, s, c, b, t, x, 0⟩ = T) (hd : w64 (T - fr) = d) (D : Nat) (hD : d = D) (hD1 : 0 < D) (hD2 : d ≤ mm) (r : List Int) (hr : itemsF m base n ⟨2, 4, s, c, b, t, x, 0⟩ = r) (rn : Nat) (hrn : r.length = rn) :
    Calls Try.prog 16 #[v, .int .i64 base, .int .i64 n, mvv 2 4 s c b t x 0] w (ItemsEnd w r rn) := by
  obtain ⟨w1, e1, hb1, M1⟩ := rbox_one w 2 4 s c b t x 0
  have HMB := hide M1
  have HC := hide (h.below hb1)
  have e4 : IntKind.i64.wrap (base + 1) = q := by rw [wrap_s]; exact hq
  have e5 : wrap64 (base + 1) = q := by rw [wrap64_s]; exact hq
  have HF := hide hf
  have HTO := hide hto
  obtain ⟨w2, e2, hb2, M2⟩ := rbox_one w1 0 0 base n 0 0 0 0
  have HE2 := hide e2
  have HM1 := hide (HMB.out.below hb2)
  have HM2 := hide M2
  have HC2 := hide (HC.out.below hb2)
  have HB2 := hide (bcall hb1 hb2)
  have HBG := hide hbig
  have HNN := hide hn
  have HRN := hide hrn
  have HHM := hide hm
  have HHB := hide hbase
  have e7 : IntKind.u64.wrap (T - fr) = d := by rw [wrap_w]; exact hd
  have hmm1 : 1 ≤ mm ∧ mm ≤ 64 := by omega
  have e10 : IntKind.u64.wrap mm = mm := by rw [wrap_w]; exact w64_small (by omega) (by omega)
  have e6 : IntKind.u64.wrap (to + 1) = T := by rw [wrap_w]; exact hT
  have hUT : U T := by rw [← hT]; exact w64_U' _
  have h64 : D ≤ 64 := by omega
  have hfU := load_U hm base
  rw [hf] at hfU
  have HR := hide (show r = ((plL fr base n D).map (loadF m)).map s64 by rw [← hr]; exact items_fit hf hE hd (by rw [hmm]; exact hD2) D hD)
  have HGE := hide (go_end hUT hd D hD)
  have HFR := hide (show w64 (fr + ((0 : Nat) : Int)) = fr by unfold U at hfU; rw [show fr + ((0 : Nat) : Int) = fr by simp]; exact w64_small hfU.1 hfU.2)
  have HGN := hide (fun (j : Nat) (hj : j < D) => go_ne hUT hd hD h64 hj)
  have HGL := hide (fun (j : Nat) (hj : j ≤ D) => go_left hUT hd hD hj h64)
  have e8 : IntKind.i64.wrap d = d := by rw [wrap_s]; exact s64_small (by omega) (by omega)
  have e9 : wrap64 d = d := by rw [wrap64_s]; exact s64_small (by omega) (by omega)
  have d1 : decide (d ≤ 0) = false := decide_eq_false (by omega)
  have d2 : decide (mm < d) = false := decide_eq_false (by omega)
  clear hUT hfU
  clear hb1 hb2 M1 M2 hf hto hbig hn hE hq hd hrn hr h hm hbase
  clear hT
  go_enter Try.func16, Try.ntmps16
  go_upto_region 1 with (fail)
  clear e1 e2
  go_wp2_with fail
  rw [HE2.out]
  (with_reducible refine (rload_any _ m base fr HF.out _ HC2.out HBG.out).mono ?_)
  rintro e w3 ⟨rfl, hb3⟩
  have HM1 := hide (HM1.out.below hb3)
  have HM2 := hide (HM2.out.below hb3)
  have HC2 := hide (HC2.out.below hb3)
  have HB2 := hide (bcall HB2.out hb3)
  clear hb3
  go_wp2_with fail
  (with_reducible refine (rload_any _ m q to HTO.out _ HC2.out HBG.out).mono ?_)
  rintro e w4 ⟨rfl, hb4⟩
  have HM1 := hide (HM1.out.below hb4)
  have HM2 := hide (HM2.out.below hb4)
  have HC2 := hide (HC2.out.below hb4)
  have HB2 := hide (bcall HB2.out hb4)
  clear hb4
  obtain ⟨a0, a1, a2, a3, a4, a5, a6, a7⟩ := HM1.out.cells
  obtain ⟨i0, hi, hz0, hz1, hz2⟩ := info_parts infoI
  go_wp2
  go_loopw [13, 14] (fun ov iv wr => ∃ j : Nat, j ≤ D ∧ iv = .int .u64 (w64 (fr + (j : Nat))) ∧ Hid (ItAt w4 wr (((plL fr base n j).map (loadF m)).map s64) j ov)) (fun _ iv _ => (w64 (T - Go.RowKit.intOf iv)).toNat)
  case atStart => exact ⟨0, Nat.zero_le _, by rw [HFR.out], hide ⟨World.ownsRow_nil _ _ _ _, Below.refl _ _⟩⟩
  case round =>
    obtain ⟨j, hj, rfl, HA⟩ := hrel
    obtain ⟨iv, hiv⟩ : ∃ iv, w64 (fr + (j : Nat)) = iv := ⟨_, rfl⟩
    have HIV := hide hiv
    rw [hiv]
    have hsz := HA.out.below.size
    by_cases hlt : j < D
    · have q0 : (iv != T) = true := by rw [bne_iff_ne, ← hiv]; exact HGN.out j hlt
      obtain ⟨pq, hpq⟩ : ∃ pq, plF fr base n j = pq := ⟨_, rfl⟩
      have HPQ := hide (show s64 (base + 2 + iv % max n 1) = pq by rw [← hiv]; exact hpq)
      have HU := hide (show U iv by rw [← hiv]; exact w64_U' _)
      obtain ⟨y, hy⟩ : ∃ y, loadF m pq = y := ⟨_, rfl⟩
      have HY := hide hy
      obtain ⟨y1, hy1⟩ : ∃ y1, s64 y = y1 := ⟨_, rfl⟩
      have HPL := hide (show ((plL fr base n (j + 1)).map (loadF m)).map s64 = ((plL fr base n j).map (loadF m)).map s64 ++ [y1] by rw [plL_succ, List.map_append, List.map_append, hpq]; simp [hy, hy1])
      have e11 : IntKind.i64.wrap y = y1 := by rw [wrap_s]; exact hy1
      have e12 : wrap64 y = y1 := by rw [wrap64_s]; exact hy1
      obtain ⟨iv2, hiv2⟩ : ∃ iv2, w64 (iv + 1) = iv2 := ⟨_, rfl⟩
      have e13 : IntKind.u64.wrap (iv + 1) = iv2 := by rw [wrap_w]; exact hiv2
      have HNX := hide (show w64 (fr + ((j + 1 : Nat) : Int)) = iv2 by rw [← hiv2, ← hiv]; exact (go_next fr j).symm)
      have HDB := hide (HM2.out.below HA.out.below)
      obtain ⟨z0, z1, z2, z3, z4, z5, z6, z7⟩ := HDB.out.cells
      have HCA := hide (HC2.out.below HA.out.below)
      clear hpq hiv hiv2 hy hy1
      go_wp2_with fail
      (with_reducible refine (rplace_any 0 0 base n 0 0 0 0 iv pq HNN.out HU.out HPQ.out _).mono ?_)
      rintro e w6 ⟨rfl, hb6⟩
      have HCA := hide (HCA.out.below hb6)
      go_wp2_with fail
      (with_reducible refine (rload_any _ m pq y HY.out _ HCA.out HBG.out).mono ?_)
      rintro e w7 ⟨rfl, hb7⟩
      have HOW := hide (own_below (own_below HA.out.own hb6) hb7)
      have HBW := hide (bcall (bcall HA.out.below hb6) hb7)
      have hsz7 := HBW.out.size
      clear hb6 hb7
      go_wp2_with (at_builtin; refine wpList_append_own _ rfl _ _ 34 rfl w4.heap.size 3 i0 (.int .i64 0) 1 8 Try.underlying34 hi hz0 hz1 hz2 rfl (by decide) _ _ _ rfl (HOW.out.alloc _) ⟨_, 0, none⟩ 1 1 [.int .i64 y1] rfl rfl (row_at _ _ _ (by simp)) (by simp [Value.oneCell']) (by simp only [maxLen]; omega) (by omega) (by simp; omega) ?_; intro h'' w9 hown' hgrow _)
      go_roundw
      case rel =>
        refine ⟨j + 1, by omega, by rw [HNX.out], hide ⟨?_, ?_⟩⟩
        · rw [HPL.out, List.flatMap_append]; exact hown'
        · exact (HBW.out.alloc hsz7 _).grown hgrow (by simp; omega) (own_ge HOW.out)
      case measure =>
        show (w64 (T - iv2)).toNat < (w64 (T - iv)).toNat
        have ha := HGL.out j (by omega)
        have hb := HGL.out (j + 1) (by omega)
        rw [HIV.out] at ha
        rw [HNX.out] at hb
        omega
    · have hjD : j = D := by omega
      obtain rfl : iv = T := by rw [← hiv, hjD]; exact HGE.out
      have q0 : (iv != iv) = false := by simp
      clear hiv
      go_wp2
      go_ret
      have := items_fin (r := r) (n := rn) HA.out (by rw [List.length_map, List.length_map, plL_len]) (by rw [HR.out, hjD]) HRN.out
      obtain ⟨A9, c9, h91, h92, h93, h94⟩ := this
      exact ⟨A9, c9, h91, h92, h93, bcall HB2.out h94⟩
theorem ritems_C4 (s c b t x : Int) (v : Value) (m : List Int) (base n : Int) (w : World) (h : Cells w v m) (hm : AllU m) (hbig : m.length * 8 ≤ 140737488351232) (hbase : I6 base) (hn : I6 n)
     (hx : extF ⟨2, 4, s, c, b, t, x, 0⟩ = true) (r : List Int) (hr : itemsF m base n ⟨2, 4, s, c, b, t, x, 0⟩ = r) (rn : Nat) (hrn : r.length = rn) :
    Calls Try.prog 16 #[v, .int .i64 base, .int .i64 n, mvv 2 4 s c b t x 0] w (ItemsEnd w r rn) := by
  by_cases hc : s64 ((w64 (loadF m (s64 (base + 1)) + 1)) - loadF m base) ≤ 0
  · exact ritems_C4n1 s c b t x v m base n w h hm hbig hbase hn _ _ _ _ _ _ rfl rfl rfl rfl  rfl (end_yes rfl rfl hx) rfl _ rfl hc r hr rn hrn
  · by_cases hc2 : min (max n 1) 64 < w64 ((w64 (loadF m (s64 (base + 1)) + 1)) - loadF m base)
    · exact ritems_C4n2 s c b t x v m base n w h hm hbig hbase hn _ _ _ _ _ _ rfl rfl rfl rfl  rfl (end_yes rfl rfl hx) rfl _ rfl hc hc2 r hr rn hrn
    · have h0 := (w64_U' ((w64 (loadF m (s64 (base + 1)) + 1)) - loadF m base)).1
      have h1 : w64 ((w64 (loadF m (s64 (base + 1)) + 1)) - loadF m base) ≠ 0 := fun e => hc (by rw [← s64_w64, e]; decide)
      exact ritems_C4ok s c b t x v m base n w h hm hbig hbase hn _ _ _ _ _ _ rfl rfl rfl rfl  rfl (end_yes rfl rfl hx) rfl _ (Int.toNat_of_nonneg h0).symm (by omega) (by omega) r hr rn hrn
end Go.Proofs.Ytimjlgglhonhkaa
/- Layer deque, the document's answer: Items, by the owner's cases. -/
namespace Go.Proofs.Ytimjlgglhonhkaa
open Go.RowKit

set_option maxRecDepth 100000 in
set_option maxHeartbeats 4000000 in
theorem ritems_C5n1 (s c b t x : Int) (v : Value) (m : List Int) (base n : Int) (w : World) (h : Cells w v m) (hm : AllU m) (hbig : m.length * 8 ≤ 140737488351232) (hbase : I6 base) (hn : I6 n) (q fr to T d mm : Int) (hq : s64 (base + 1) = q) (hf : loadF m base = fr) (hto : loadF m q = to) (hmm : min (max n 1) 64 = mm)
     (hT : w64 (to + 1) = T) (hE : endF m base ⟨2, 5, s, c, b, t, x, 0⟩ = T) (hd : w64 (T - fr) = d) (ds : Int) (hds : s64 (T - fr) = ds) (hc : ds ≤ 0) (r : List Int) (hr : itemsF m base n ⟨2, 5, s, c, b, t, x, 0⟩ = r) (rn : Nat) (hrn : r.length = rn) :
    Calls Try.prog 16 #[v, .int .i64 base, .int .i64 n, mvv 2 5 s c b t x 0] w (ItemsEnd w r rn) := by
  obtain ⟨w1, e1, hb1, M1⟩ := rbox_one w 2 5 s c b t x 0
  have HMB := hide M1
  have HC := hide (h.below hb1)
  have e4 : IntKind.i64.wrap (base + 1) = q := by rw [wrap_s]; exact hq
  have e5 : wrap64 (base + 1) = q := by rw [wrap64_s]; exact hq
  have HF := hide hf
  have HTO := hide hto
  obtain ⟨w2, e2, hb2, M2⟩ := rbox_one w1 0 0 base n 0 0 0 0
  have HE2 := hide e2
  have HM1 := hide (HMB.out.below hb2)
  have HM2 := hide M2
  have HC2 := hide (HC.out.below hb2)
  have HB2 := hide (bcall hb1 hb2)
  have HBG := hide hbig
  have HNN := hide hn
  have HRN := hide hrn
  have HHM := hide hm
  have HHB := hide hbase
  have e7 : IntKind.u64.wrap (T - fr) = d := by rw [wrap_w]; exact hd
  have hmm1 : 1 ≤ mm ∧ mm ≤ 64 := by omega
  have e10 : IntKind.u64.wrap mm = mm := by rw [wrap_w]; exact w64_small (by omega) (by omega)
  have e6 : IntKind.u64.wrap (to + 1) = T := by rw [wrap_w]; exact hT
  have e8 : IntKind.i64.wrap d = ds := by rw [wrap_s, ← hd, s64_w64]; exact hds
  have e9 : wrap64 d = ds := by rw [wrap64_s, ← hd, s64_w64]; exact hds
  have HR := hide (show r = [] by
    rw [← hr]; unfold itemsF; simp only [hE, hf, hd, hds, hmm]; rw [if_pos (.inl hc)])
  have d1 : decide (ds ≤ 0) = true := decide_eq_true hc
  clear hb1 hb2 M1 M2 hf hto hbig hn hE hq hd hrn hr h hm hbase hds
  clear hT
  go_enter Try.func16, Try.ntmps16
  go_upto_region 1 with (fail)
  clear e1 e2
  go_wp2_with fail
  rw [HE2.out]
  (with_reducible refine (rload_any _ m base fr HF.out _ HC2.out HBG.out).mono ?_)
  rintro e w3 ⟨rfl, hb3⟩
  have HM1 := hide (HM1.out.below hb3)
  have HM2 := hide (HM2.out.below hb3)
  have HC2 := hide (HC2.out.below hb3)
  have HB2 := hide (bcall HB2.out hb3)
  clear hb3
  go_wp2_with fail
  (with_reducible refine (rload_any _ m q to HTO.out _ HC2.out HBG.out).mono ?_)
  rintro e w4 ⟨rfl, hb4⟩
  have HM1 := hide (HM1.out.below hb4)
  have HM2 := hide (HM2.out.below hb4)
  have HC2 := hide (HC2.out.below hb4)
  have HB2 := hide (bcall HB2.out hb4)
  clear hb4
  obtain ⟨a0, a1, a2, a3, a4, a5, a6, a7⟩ := HM1.out.cells
  go_wp2
  go_ret
  have := items_fin (r := r) (n := rn) (⟨World.ownsRow_nil _ _ _ _, Below.refl _ _⟩ : ItAt w4 w4 [] 0 (.slice none 0 0)) rfl HR.out HRN.out
  obtain ⟨A9, c9, h91, h92, h93, h94⟩ := this
  exact ⟨A9, c9, h91, h92, h93, bcall HB2.out h94⟩
set_option maxRecDepth 100000 in
set_option maxHeartbeats 4000000 in
theorem ritems_C5n2 (s c b t x : Int) (v : Value) (m : List Int) (base n : Int) (w : World) (h : Cells w v m) (hm : AllU m) (hbig : m.length * 8 ≤ 140737488351232) (hbase : I6 base) (hn : I6 n) (q fr to T d mm : Int) (hq : s64 (base + 1) = q) (hf : loadF m base = fr) (hto : loadF m q = to) (hmm : min (max n 1) 64 = mm)
     (hT : w64 (to + 1) = T) (hE : endF m base ⟨2, 5, s, c, b, t, x, 0⟩ = T) (hd : w64 (T - fr) = d) (ds : Int) (hds : s64 (T - fr) = ds) (hc : ¬ ds ≤ 0) (hc2 : mm < d) (r : List Int) (hr : itemsF m base n ⟨2, 5, s, c, b, t, x, 0⟩ = r) (rn : Nat) (hrn : r.length = rn) :
    Calls Try.prog 16 #[v, .int .i64 base, .int .i64 n, mvv 2 5 s c b t x 0] w (ItemsEnd w r rn) := by
  obtain ⟨w1, e1, hb1, M1⟩ := rbox_one w 2 5 s c b t x 0
  have HMB := hide M1
  have HC := hide (h.below hb1)
  have e4 : IntKind.i64.wrap (base + 1) = q := by rw [wrap_s]; exact hq
  have e5 : wrap64 (base + 1) = q := by rw [wrap64_s]; exact hq
  have HF := hide hf
  have HTO := hide hto
  obtain ⟨w2, e2, hb2, M2⟩ := rbox_one w1 0 0 base n 0 0 0 0
  have HE2 := hide e2
  have HM1 := hide (HMB.out.below hb2)
  have HM2 := hide M2
  have HC2 := hide (HC.out.below hb2)
  have HB2 := hide (bcall hb1 hb2)
  have HBG := hide hbig
  have HNN := hide hn
  have HRN := hide hrn
  have HHM := hide hm
  have HHB := hide hbase
  have e7 : IntKind.u64.wrap (T - fr) = d := by rw [wrap_w]; exact hd
  have hmm1 : 1 ≤ mm ∧ mm ≤ 64 := by omega
  have e10 : IntKind.u64.wrap mm = mm := by rw [wrap_w]; exact w64_small (by omega) (by omega)
  have e6 : IntKind.u64.wrap (to + 1) = T := by rw [wrap_w]; exact hT
  have e8 : IntKind.i64.wrap d = ds := by rw [wrap_s, ← hd, s64_w64]; exact hds
  have e9 : wrap64 d = ds := by rw [wrap64_s, ← hd, s64_w64]; exact hds
  have HR := hide (show r = [] by
    rw [← hr]; unfold itemsF; simp only [hE, hf, hd, hds, hmm]; rw [if_pos (.inr hc2)])
  have d1 : decide (ds ≤ 0) = false := decide_eq_false hc
  have d2 : decide (mm < d) = true := decide_eq_true hc2
  clear hb1 hb2 M1 M2 hf hto hbig hn hE hq hd hrn hr h hm hbase hds
  clear hT
  go_enter Try.func16, Try.ntmps16
  go_upto_region 1 with (fail)
  clear e1 e2
  go_wp2_with fail
  rw [HE2.out]
  (with_reducible refine (rload_any _ m base fr HF.out _ HC2.out HBG.out).mono ?_)
  rintro e w3 ⟨rfl, hb3⟩
  have HM1 := hide (HM1.out.below hb3)
  have HM2 := hide (HM2.out.below hb3)
  have HC2 := hide (HC2.out.below hb3)
  have HB2 := hide (bcall HB2.out hb3)
  clear hb3
  go_wp2_with fail
  (with_reducible refine (rload_any _ m q to HTO.out _ HC2.out HBG.out).mono ?_)
  rintro e w4 ⟨rfl, hb4⟩
  have HM1 := hide (HM1.out.below hb4)
  have HM2 := hide (HM2.out.below hb4)
  have HC2 := hide (HC2.out.below hb4)
  have HB2 := hide (bcall HB2.out hb4)
  clear hb4
  obtain ⟨a0, a1, a2, a3, a4, a5, a6, a7⟩ := HM1.out.cells
  go_wp2
  go_ret
  have := items_fin (r := r) (n := rn) (⟨World.ownsRow_nil _ _ _ _, Below.refl _ _⟩ : ItAt w4 w4 [] 0 (.slice none 0 0)) rfl HR.out HRN.out
  obtain ⟨A9, c9, h91, h92, h93, h94⟩ := this
  exact ⟨A9, c9, h91, h92, h93, bcall HB2.out h94⟩
set_option maxRecDepth 100000 in
set_option maxHeartbeats 4000000 in
theorem ritems_C5ok (s c b t x : Int) (v : Value) (m : List Int) (base n : Int) (w : World) (h : Cells w v m) (hm : AllU m) (hbig : m.length * 8 ≤ 140737488351232) (hbase : I6 base) (hn : I6 n) (q fr to T d mm : Int) (hq : s64 (base + 1) = q) (hf : loadF m base = fr) (hto : loadF m q = to) (hmm : min (max n 1) 64 = mm)
     (hT : w64 (to + 1) = T) (hE : endF m base ⟨2, 5, s, c, b, t, x, 0⟩ = T) (hd : w64 (T - fr) = d) (D : Nat) (hD : d = D) (hD1 : 0 < D) (hD2 : d ≤ mm) (r : List Int) (hr : itemsF m base n ⟨2, 5, s, c, b, t, x, 0⟩ = r) (rn : Nat) (hrn : r.length = rn) :
    Calls Try.prog 16 #[v, .int .i64 base, .int .i64 n, mvv 2 5 s c b t x 0] w (ItemsEnd w r rn) := by
  obtain ⟨w1, e1, hb1, M1⟩ := rbox_one w 2 5 s c b t x 0
  have HMB := hide M1
  have HC := hide (h.below hb1)
  have e4 : IntKind.i64.wrap (base + 1) = q := by rw [wrap_s]; exact hq
  have e5 : wrap64 (base + 1) = q := by rw [wrap64_s]; exact hq
  have HF := hide hf
  have HTO := hide hto
  obtain ⟨w2, e2, hb2, M2⟩ := rbox_one w1 0 0 base n 0 0 0 0
  have HE2 := hide e2
  have HM1 := hide (HMB.out.below hb2)
  have HM2 := hide M2
  have HC2 := hide (HC.out.below hb2)
  have HB2 := hide (bcall hb1 hb2)
  have HBG := hide hbig
  have HNN := hide hn
  have HRN := hide hrn
  have HHM := hide hm
  have HHB := hide hbase
  have e7 : IntKind.u64.wrap (T - fr) = d := by rw [wrap_w]; exact hd
  have hmm1 : 1 ≤ mm ∧ mm ≤ 64 := by omega
  have e10 : IntKind.u64.wrap mm = mm := by rw [wrap_w]; exact w64_small (by omega) (by omega)
  have e6 : IntKind.u64.wrap (to + 1) = T := by rw [wrap_w]; exact hT
  have hUT : U T := by rw [← hT]; exact w64_U' _
  have h64 : D ≤ 64 := by omega
  have hfU := load_U hm base
  rw [hf] at hfU
  have HR := hide (show r = ((plL fr base n D).map (loadF m)).map s64 by rw [← hr]; exact items_fit hf hE hd (by rw [hmm]; exact hD2) D hD)
  have HGE := hide (go_end hUT hd D hD)
  have HFR := hide (show w64 (fr + ((0 : Nat) : Int)) = fr by unfold U at hfU; rw [show fr + ((0 : Nat) : Int) = fr by simp]; exact w64_small hfU.1 hfU.2)
  have HGN := hide (fun (j : Nat) (hj : j < D) => go_ne hUT hd hD h64 hj)
  have HGL := hide (fun (j : Nat) (hj : j ≤ D) => go_left hUT hd hD hj h64)
  have e8 : IntKind.i64.wrap d = d := by rw [wrap_s]; exact s64_small (by omega) (by omega)
  have e9 : wrap64 d = d := by rw [wrap64_s]; exact s64_small (by omega) (by omega)
  have d1 : decide (d ≤ 0) = false := decide_eq_false (by omega)
  have d2 : decide (mm < d) = false := decide_eq_false (by omega)
  clear hUT hfU
  clear hb1 hb2 M1 M2 hf hto hbig hn hE hq hd hrn hr h hm hbase
  clear hT
  go_enter Try.func16, Try.ntmps16
  go_upto_region 1 with (fail)
  clear e1 e2
  go_wp2_with fail
  rw [HE2.out]
  (with_reducible refine (rload_any _ m base fr HF.out _ HC2.out HBG.out).mono ?_)
  rintro e w3 ⟨rfl, hb3⟩
  have HM1 := hide (HM1.out.below hb3)
  have HM2 := hide (HM2.out.below hb3)
  have HC2 := hide (HC2.out.below hb3)
  have HB2 := hide (bcall HB2.out hb3)
  clear hb3
  go_wp2_with fail
  (with_reducible refine (rload_any _ m q to HTO.out _ HC2.out HBG.out).mono ?_)
  rintro e w4 ⟨rfl, hb4⟩
  have HM1 := hide (HM1.out.below hb4)
  have HM2 := hide (HM2.out.below hb4)
  have HC2 := hide (HC2.out.below hb4)
  have HB2 := hide (bcall HB2.out hb4)
  clear hb4
  obtain ⟨a0, a1, a2, a3, a4, a5, a6, a7⟩ := HM1.out.cells
  obtain ⟨i0, hi, hz0, hz1, hz2⟩ := info_parts infoI
  go_wp2
  go_loopw [13, 14] (fun ov iv wr => ∃ j : Nat, j ≤ D ∧ iv = .int .u64 (w64 (fr + (j : Nat))) ∧ Hid (ItAt w4 wr (((plL fr base n j).map (loadF m)).map s64) j ov)) (fun _ iv _ => (w64 (T - Go.RowKit.intOf iv)).toNat)
  case atStart => exact ⟨0, Nat.zero_le _, by rw [HFR.out], hide ⟨World.ownsRow_nil _ _ _ _, Below.refl _ _⟩⟩
  case round =>
    obtain ⟨j, hj, rfl, HA⟩ := hrel
    obtain ⟨iv, hiv⟩ : ∃ iv, w64 (fr + (j : Nat)) = iv := ⟨_, rfl⟩
    have HIV := hide hiv
    rw [hiv]
    have hsz := HA.out.below.size
    by_cases hlt : j < D
    · have q0 : (iv != T) = true := by rw [bne_iff_ne, ← hiv]; exact HGN.out j hlt
      obtain ⟨pq, hpq⟩ : ∃ pq, plF fr base n j = pq := ⟨_, rfl⟩
      have HPQ := hide (show s64 (base + 2 + iv % max n 1) = pq by rw [← hiv]; exact hpq)
      have HU := hide (show U iv by rw [← hiv]; exact w64_U' _)
      obtain ⟨y, hy⟩ : ∃ y, loadF m pq = y := ⟨_, rfl⟩
      have HY := hide hy
      obtain ⟨y1, hy1⟩ : ∃ y1, s64 y = y1 := ⟨_, rfl⟩
      have HPL := hide (show ((plL fr base n (j + 1)).map (loadF m)).map s64 = ((plL fr base n j).map (loadF m)).map s64 ++ [y1] by rw [plL_succ, List.map_append, List.map_append, hpq]; simp [hy, hy1])
      have e11 : IntKind.i64.wrap y = y1 := by rw [wrap_s]; exact hy1
      have e12 : wrap64 y = y1 := by rw [wrap64_s]; exact hy1
      obtain ⟨iv2, hiv2⟩ : ∃ iv2, w64 (iv + 1) = iv2 := ⟨_, rfl⟩
      have e13 : IntKind.u64.wrap (iv + 1) = iv2 := by rw [wrap_w]; exact hiv2
      have HNX := hide (show w64 (fr + ((j + 1 : Nat) : Int)) = iv2 by rw [← hiv2, ← hiv]; exact (go_next fr j).symm)
      have HDB := hide (HM2.out.below HA.out.below)
      obtain ⟨z0, z1, z2, z3, z4, z5, z6, z7⟩ := HDB.out.cells
      have HCA := hide (HC2.out.below HA.out.below)
      clear hpq hiv hiv2 hy hy1
      go_wp2_with fail
      (with_reducible refine (rplace_any 0 0 base n 0 0 0 0 iv pq HNN.out HU.out HPQ.out _).mono ?_)
      rintro e w6 ⟨rfl, hb6⟩
      have HCA := hide (HCA.out.below hb6)
      go_wp2_with fail
      (with_reducible refine (rload_any _ m pq y HY.out _ HCA.out HBG.out).mono ?_)
      rintro e w7 ⟨rfl, hb7⟩
      have HOW := hide (own_below (own_below HA.out.own hb6) hb7)
      have HBW := hide (bcall (bcall HA.out.below hb6) hb7)
      have hsz7 := HBW.out.size
      clear hb6 hb7
      go_wp2_with (at_builtin; refine wpList_append_own _ rfl _ _ 34 rfl w4.heap.size 3 i0 (.int .i64 0) 1 8 Try.underlying34 hi hz0 hz1 hz2 rfl (by decide) _ _ _ rfl (HOW.out.alloc _) ⟨_, 0, none⟩ 1 1 [.int .i64 y1] rfl rfl (row_at _ _ _ (by simp)) (by simp [Value.oneCell']) (by simp only [maxLen]; omega) (by omega) (by simp; omega) ?_; intro h'' w9 hown' hgrow _)
      go_roundw
      case rel =>
        refine ⟨j + 1, by omega, by rw [HNX.out], hide ⟨?_, ?_⟩⟩
        · rw [HPL.out, List.flatMap_append]; exact hown'
        · exact (HBW.out.alloc hsz7 _).grown hgrow (by simp; omega) (own_ge HOW.out)
      case measure =>
        show (w64 (T - iv2)).toNat < (w64 (T - iv)).toNat
        have ha := HGL.out j (by omega)
        have hb := HGL.out (j + 1) (by omega)
        rw [HIV.out] at ha
        rw [HNX.out] at hb
        omega
    · have hjD : j = D := by omega
      obtain rfl : iv = T := by rw [← hiv, hjD]; exact HGE.out
      have q0 : (iv != iv) = false := by simp
      clear hiv
      go_wp2
      go_ret
      have := items_fin (r := r) (n := rn) HA.out (by rw [List.length_map, List.length_map, plL_len]) (by rw [HR.out, hjD]) HRN.out
      obtain ⟨A9, c9, h91, h92, h93, h94⟩ := this
      exact ⟨A9, c9, h91, h92, h93, bcall HB2.out h94⟩
theorem ritems_C5 (s c b t x : Int) (v : Value) (m : List Int) (base n : Int) (w : World) (h : Cells w v m) (hm : AllU m) (hbig : m.length * 8 ≤ 140737488351232) (hbase : I6 base) (hn : I6 n)
     (hx : extF ⟨2, 5, s, c, b, t, x, 0⟩ = true) (r : List Int) (hr : itemsF m base n ⟨2, 5, s, c, b, t, x, 0⟩ = r) (rn : Nat) (hrn : r.length = rn) :
    Calls Try.prog 16 #[v, .int .i64 base, .int .i64 n, mvv 2 5 s c b t x 0] w (ItemsEnd w r rn) := by
  by_cases hc : s64 ((w64 (loadF m (s64 (base + 1)) + 1)) - loadF m base) ≤ 0
  · exact ritems_C5n1 s c b t x v m base n w h hm hbig hbase hn _ _ _ _ _ _ rfl rfl rfl rfl  rfl (end_yes rfl rfl hx) rfl _ rfl hc r hr rn hrn
  · by_cases hc2 : min (max n 1) 64 < w64 ((w64 (loadF m (s64 (base + 1)) + 1)) - loadF m base)
    · exact ritems_C5n2 s c b t x v m base n w h hm hbig hbase hn _ _ _ _ _ _ rfl rfl rfl rfl  rfl (end_yes rfl rfl hx) rfl _ rfl hc hc2 r hr rn hrn
    · have h0 := (w64_U' ((w64 (loadF m (s64 (base + 1)) + 1)) - loadF m base)).1
      have h1 : w64 ((w64 (loadF m (s64 (base + 1)) + 1)) - loadF m base) ≠ 0 := fun e => hc (by rw [← s64_w64, e]; decide)
      exact ritems_C5ok s c b t x v m base n w h hm hbig hbase hn _ _ _ _ _ _ rfl rfl rfl rfl  rfl (end_yes rfl rfl hx) rfl _ (Int.toNat_of_nonneg h0).symm (by omega) (by omega) r hr rn hrn
set_option maxRecDepth 100000 in
set_option maxHeartbeats 4000000 in
theorem ritems_En1 (p s c b t x : Int) (v : Value) (m : List Int) (base n : Int) (w : World) (h : Cells w v m) (hm : AllU m) (hbig : m.length * 8 ≤ 140737488351232) (hbase : I6 base) (hn : I6 n) (q fr to T d mm : Int) (hq : s64 (base + 1) = q) (hf : loadF m base = fr) (hto : loadF m q = to) (hmm : min (max n 1) 64 = mm)
    (p2 : (p == 2) = false) (p4 : (p == 4) = false) (p5 : (p == 5) = false) (p3 : (p == 3) = false) (hT : to = T) (hE : endF m base ⟨2, p, s, c, b, t, x, 0⟩ = T) (hd : w64 (T - fr) = d) (ds : Int) (hds : s64 (T - fr) = ds) (hc : ds ≤ 0) (r : List Int) (hr : itemsF m base n ⟨2, p, s, c, b, t, x, 0⟩ = r) (rn : Nat) (hrn : r.length = rn) :
    Calls Try.prog 16 #[v, .int .i64 base, .int .i64 n, mvv 2 p s c b t x 0] w (ItemsEnd w r rn) := by
  obtain ⟨w1, e1, hb1, M1⟩ := rbox_one w 2 p s c b t x 0
  have HMB := hide M1
  have HC := hide (h.below hb1)
  have e4 : IntKind.i64.wrap (base + 1) = q := by rw [wrap_s]; exact hq
  have e5 : wrap64 (base + 1) = q := by rw [wrap64_s]; exact hq
  have HF := hide hf
  have HTO := hide hto
  obtain ⟨w2, e2, hb2, M2⟩ := rbox_one w1 0 0 base n 0 0 0 0
  have HE2 := hide e2
  have HM1 := hide (HMB.out.below hb2)
  have HM2 := hide M2
  have HC2 := hide (HC.out.below hb2)
  have HB2 := hide (bcall hb1 hb2)
  have HBG := hide hbig
  have HNN := hide hn
  have HRN := hide hrn
  have HHM := hide hm
  have HHB := hide hbase
  have e7 : IntKind.u64.wrap (T - fr) = d := by rw [wrap_w]; exact hd
  have hmm1 : 1 ≤ mm ∧ mm ≤ 64 := by omega
  have e10 : IntKind.u64.wrap mm = mm := by rw [wrap_w]; exact w64_small (by omega) (by omega)
  have e8 : IntKind.i64.wrap d = ds := by rw [wrap_s, ← hd, s64_w64]; exact hds
  have e9 : wrap64 d = ds := by rw [wrap64_s, ← hd, s64_w64]; exact hds
  have HR := hide (show r = [] by
    rw [← hr]; unfold itemsF; simp only [hE, hf, hd, hds, hmm]; rw [if_pos (.inl hc)])
  have d1 : decide (ds ≤ 0) = true := decide_eq_true hc
  clear hb1 hb2 M1 M2 hf hto hbig hn hE hq hd hrn hr h hm hbase hds
  subst hT
  go_enter Try.func16, Try.ntmps16
  go_upto_region 1 with (fail)
  clear e1 e2
  go_wp2_with fail
  rw [HE2.out]
  (with_reducible refine (rload_any _ m base fr HF.out _ HC2.out HBG.out).mono ?_)
  rintro e w3 ⟨rfl, hb3⟩
  have HM1 := hide (HM1.out.below hb3)
  have HM2 := hide (HM2.out.below hb3)
  have HC2 := hide (HC2.out.below hb3)
  have HB2 := hide (bcall HB2.out hb3)
  clear hb3
  go_wp2_with fail
  (with_reducible refine (rload_any _ m q to HTO.out _ HC2.out HBG.out).mono ?_)
  rintro e w4 ⟨rfl, hb4⟩
  have HM1 := hide (HM1.out.below hb4)
  have HM2 := hide (HM2.out.below hb4)
  have HC2 := hide (HC2.out.below hb4)
  have HB2 := hide (bcall HB2.out hb4)
  clear hb4
  obtain ⟨a0, a1, a2, a3, a4, a5, a6, a7⟩ := HM1.out.cells
  go_wp2
  go_ret
  have := items_fin (r := r) (n := rn) (⟨World.ownsRow_nil _ _ _ _, Below.refl _ _⟩ : ItAt w4 w4 [] 0 (.slice none 0 0)) rfl HR.out HRN.out
  obtain ⟨A9, c9, h91, h92, h93, h94⟩ := this
  exact ⟨A9, c9, h91, h92, h93, bcall HB2.out h94⟩
set_option maxRecDepth 100000 in
set_option maxHeartbeats 4000000 in
theorem ritems_En2 (p s c b t x : Int) (v : Value) (m : List Int) (base n : Int) (w : World) (h : Cells w v m) (hm : AllU m) (hbig : m.length * 8 ≤ 140737488351232) (hbase : I6 base) (hn : I6 n) (q fr to T d mm : Int) (hq : s64 (base + 1) = q) (hf : loadF m base = fr) (hto : loadF m q = to) (hmm : min (max n 1) 64 = mm)
    (p2 : (p == 2) = false) (p4 : (p == 4) = false) (p5 : (p == 5) = false) (p3 : (p == 3) = false) (hT : to = T) (hE : endF m base ⟨2, p, s, c, b, t, x, 0⟩ = T) (hd : w64 (T - fr) = d) (ds : Int) (hds : s64 (T - fr) = ds) (hc : ¬ ds ≤ 0) (hc2 : mm < d) (r : List Int) (hr : itemsF m base n ⟨2, p, s, c, b, t, x, 0⟩ = r) (rn : Nat) (hrn : r.length = rn) :
    Calls Try.prog 16 #[v, .int .i64 base, .int .i64 n, mvv 2 p s c b t x 0] w (ItemsEnd w r rn) := by
  obtain ⟨w1, e1, hb1, M1⟩ := rbox_one w 2 p s c b t x 0
  have HMB := hide M1
  have HC := hide (h.below hb1)
  have e4 : IntKind.i64.wrap (base + 1) = q := by rw [wrap_s]; exact hq
  have e5 : wrap64 (base + 1) = q := by rw [wrap64_s]; exact hq
  have HF := hide hf
  have HTO := hide hto
  obtain ⟨w2, e2, hb2, M2⟩ := rbox_one w1 0 0 base n 0 0 0 0
  have HE2 := hide e2
  have HM1 := hide (HMB.out.below hb2)
  have HM2 := hide M2
  have HC2 := hide (HC.out.below hb2)
  have HB2 := hide (bcall hb1 hb2)
  have HBG := hide hbig
  have HNN := hide hn
  have HRN := hide hrn
  have HHM := hide hm
  have HHB := hide hbase
  have e7 : IntKind.u64.wrap (T - fr) = d := by rw [wrap_w]; exact hd
  have hmm1 : 1 ≤ mm ∧ mm ≤ 64 := by omega
  have e10 : IntKind.u64.wrap mm = mm := by rw [wrap_w]; exact w64_small (by omega) (by omega)
  have e8 : IntKind.i64.wrap d = ds := by rw [wrap_s, ← hd, s64_w64]; exact hds
  have e9 : wrap64 d = ds := by rw [wrap64_s, ← hd, s64_w64]; exact hds
  have HR := hide (show r = [] by
    rw [← hr]; unfold itemsF; simp only [hE, hf, hd, hds, hmm]; rw [if_pos (.inr hc2)])
  have d1 : decide (ds ≤ 0) = false := decide_eq_false hc
  have d2 : decide (mm < d) = true := decide_eq_true hc2
  clear hb1 hb2 M1 M2 hf hto hbig hn hE hq hd hrn hr h hm hbase hds
  subst hT
  go_enter Try.func16, Try.ntmps16
  go_upto_region 1 with (fail)
  clear e1 e2
  go_wp2_with fail
  rw [HE2.out]
  (with_reducible refine (rload_any _ m base fr HF.out _ HC2.out HBG.out).mono ?_)
  rintro e w3 ⟨rfl, hb3⟩
  have HM1 := hide (HM1.out.below hb3)
  have HM2 := hide (HM2.out.below hb3)
  have HC2 := hide (HC2.out.below hb3)
  have HB2 := hide (bcall HB2.out hb3)
  clear hb3
  go_wp2_with fail
  (with_reducible refine (rload_any _ m q to HTO.out _ HC2.out HBG.out).mono ?_)
  rintro e w4 ⟨rfl, hb4⟩
  have HM1 := hide (HM1.out.below hb4)
  have HM2 := hide (HM2.out.below hb4)
  have HC2 := hide (HC2.out.below hb4)
  have HB2 := hide (bcall HB2.out hb4)
  clear hb4
  obtain ⟨a0, a1, a2, a3, a4, a5, a6, a7⟩ := HM1.out.cells
  go_wp2
  go_ret
  have := items_fin (r := r) (n := rn) (⟨World.ownsRow_nil _ _ _ _, Below.refl _ _⟩ : ItAt w4 w4 [] 0 (.slice none 0 0)) rfl HR.out HRN.out
  obtain ⟨A9, c9, h91, h92, h93, h94⟩ := this
  exact ⟨A9, c9, h91, h92, h93, bcall HB2.out h94⟩
set_option maxRecDepth 100000 in
set_option maxHeartbeats 4000000 in
theorem ritems_Eok (p s c b t x : Int) (v : Value) (m : List Int) (base n : Int) (w : World) (h : Cells w v m) (hm : AllU m) (hbig : m.length * 8 ≤ 140737488351232) (hbase : I6 base) (hn : I6 n) (q fr to T d mm : Int) (hq : s64 (base + 1) = q) (hf : loadF m base = fr) (hto : loadF m q = to) (hmm : min (max n 1) 64 = mm)
    (p2 : (p == 2) = false) (p4 : (p == 4) = false) (p5 : (p == 5) = false) (p3 : (p == 3) = false) (hT : to = T) (hE : endF m base ⟨2, p, s, c, b, t, x, 0⟩ = T) (hd : w64 (T - fr) = d) (D : Nat) (hD : d = D) (hD1 : 0 < D) (hD2 : d ≤ mm) (r : List Int) (hr : itemsF m base n ⟨2, p, s, c, b, t, x, 0⟩ = r) (rn : Nat) (hrn : r.length = rn) :
    Calls Try.prog 16 #[v, .int .i64 base, .int .i64 n, mvv 2 p s c b t x 0] w (ItemsEnd w r rn) := by
  obtain ⟨w1, e1, hb1, M1⟩ := rbox_one w 2 p s c b t x 0
  have HMB := hide M1
  have HC := hide (h.below hb1)
  have e4 : IntKind.i64.wrap (base + 1) = q := by rw [wrap_s]; exact hq
  have e5 : wrap64 (base + 1) = q := by rw [wrap64_s]; exact hq
  have HF := hide hf
  have HTO := hide hto
  obtain ⟨w2, e2, hb2, M2⟩ := rbox_one w1 0 0 base n 0 0 0 0
  have HE2 := hide e2
  have HM1 := hide (HMB.out.below hb2)
  have HM2 := hide M2
  have HC2 := hide (HC.out.below hb2)
  have HB2 := hide (bcall hb1 hb2)
  have HBG := hide hbig
  have HNN := hide hn
  have HRN := hide hrn
  have HHM := hide hm
  have HHB := hide hbase
  have e7 : IntKind.u64.wrap (T - fr) = d := by rw [wrap_w]; exact hd
  have hmm1 : 1 ≤ mm ∧ mm ≤ 64 := by omega
  have e10 : IntKind.u64.wrap mm = mm := by rw [wrap_w]; exact w64_small (by omega) (by omega)
  have hUT : U T := by rw [← hT, ← hto]; exact load_U hm _
  have h64 : D ≤ 64 := by omega
  have hfU := load_U hm base
  rw [hf] at hfU
  have HR := hide (show r = ((plL fr base n D).map (loadF m)).map s64 by rw [← hr]; exact items_fit hf hE hd (by rw [hmm]; exact hD2) D hD)
  have HGE := hide (go_end hUT hd D hD)
  have HFR := hide (show w64 (fr + ((0 : Nat) : Int)) = fr by unfold U at hfU; rw [show fr + ((0 : Nat) : Int) = fr by simp]; exact w64_small hfU.1 hfU.2)
  have HGN := hide (fun (j : Nat) (hj : j < D) => go_ne hUT hd hD h64 hj)
  have HGL := hide (fun (j : Nat) (hj : j ≤ D) => go_left hUT hd hD hj h64)
  have e8 : IntKind.i64.wrap d = d := by rw [wrap_s]; exact s64_small (by omega) (by omega)
  have e9 : wrap64 d = d := by rw [wrap64_s]; exact s64_small (by omega) (by omega)
  have d1 : decide (d ≤ 0) = false := decide_eq_false (by omega)
  have d2 : decide (mm < d) = false := decide_eq_false (by omega)
  clear hUT hfU
  clear hb1 hb2 M1 M2 hf hto hbig hn hE hq hd hrn hr h hm hbase
  subst hT
  go_enter Try.func16, Try.ntmps16
  go_upto_region 1 with (fail)
  clear e1 e2
  go_wp2_with fail
  rw [HE2.out]
  (with_reducible refine (rload_any _ m base fr HF.out _ HC2.out HBG.out).mono ?_)
  rintro e w3 ⟨rfl, hb3⟩
  have HM1 := hide (HM1.out.below hb3)
  have HM2 := hide (HM2.out.below hb3)
  have HC2 := hide (HC2.out.below hb3)
  have HB2 := hide (bcall HB2.out hb3)
  clear hb3
  go_wp2_with fail
  (with_reducible refine (rload_any _ m q to HTO.out _ HC2.out HBG.out).mono ?_)
  rintro e w4 ⟨rfl, hb4⟩
  have HM1 := hide (HM1.out.below hb4)
  have HM2 := hide (HM2.out.below hb4)
  have HC2 := hide (HC2.out.below hb4)
  have HB2 := hide (bcall HB2.out hb4)
  clear hb4
  obtain ⟨a0, a1, a2, a3, a4, a5, a6, a7⟩ := HM1.out.cells
  obtain ⟨i0, hi, hz0, hz1, hz2⟩ := info_parts infoI
  go_wp2
  go_loopw [13, 14] (fun ov iv wr => ∃ j : Nat, j ≤ D ∧ iv = .int .u64 (w64 (fr + (j : Nat))) ∧ Hid (ItAt w4 wr (((plL fr base n j).map (loadF m)).map s64) j ov)) (fun _ iv _ => (w64 (to - Go.RowKit.intOf iv)).toNat)
  case atStart => exact ⟨0, Nat.zero_le _, by rw [HFR.out], hide ⟨World.ownsRow_nil _ _ _ _, Below.refl _ _⟩⟩
  case round =>
    obtain ⟨j, hj, rfl, HA⟩ := hrel
    obtain ⟨iv, hiv⟩ : ∃ iv, w64 (fr + (j : Nat)) = iv := ⟨_, rfl⟩
    have HIV := hide hiv
    rw [hiv]
    have hsz := HA.out.below.size
    by_cases hlt : j < D
    · have q0 : (iv != to) = true := by rw [bne_iff_ne, ← hiv]; exact HGN.out j hlt
      obtain ⟨pq, hpq⟩ : ∃ pq, plF fr base n j = pq := ⟨_, rfl⟩
      have HPQ := hide (show s64 (base + 2 + iv % max n 1) = pq by rw [← hiv]; exact hpq)
      have HU := hide (show U iv by rw [← hiv]; exact w64_U' _)
      obtain ⟨y, hy⟩ : ∃ y, loadF m pq = y := ⟨_, rfl⟩
      have HY := hide hy
      obtain ⟨y1, hy1⟩ : ∃ y1, s64 y = y1 := ⟨_, rfl⟩
      have HPL := hide (show ((plL fr base n (j + 1)).map (loadF m)).map s64 = ((plL fr base n j).map (loadF m)).map s64 ++ [y1] by rw [plL_succ, List.map_append, List.map_append, hpq]; simp [hy, hy1])
      have e11 : IntKind.i64.wrap y = y1 := by rw [wrap_s]; exact hy1
      have e12 : wrap64 y = y1 := by rw [wrap64_s]; exact hy1
      obtain ⟨iv2, hiv2⟩ : ∃ iv2, w64 (iv + 1) = iv2 := ⟨_, rfl⟩
      have e13 : IntKind.u64.wrap (iv + 1) = iv2 := by rw [wrap_w]; exact hiv2
      have HNX := hide (show w64 (fr + ((j + 1 : Nat) : Int)) = iv2 by rw [← hiv2, ← hiv]; exact (go_next fr j).symm)
      have HDB := hide (HM2.out.below HA.out.below)
      obtain ⟨z0, z1, z2, z3, z4, z5, z6, z7⟩ := HDB.out.cells
      have HCA := hide (HC2.out.below HA.out.below)
      clear hpq hiv hiv2 hy hy1
      go_wp2_with fail
      (with_reducible refine (rplace_any 0 0 base n 0 0 0 0 iv pq HNN.out HU.out HPQ.out _).mono ?_)
      rintro e w6 ⟨rfl, hb6⟩
      have HCA := hide (HCA.out.below hb6)
      go_wp2_with fail
      (with_reducible refine (rload_any _ m pq y HY.out _ HCA.out HBG.out).mono ?_)
      rintro e w7 ⟨rfl, hb7⟩
      have HOW := hide (own_below (own_below HA.out.own hb6) hb7)
      have HBW := hide (bcall (bcall HA.out.below hb6) hb7)
      have hsz7 := HBW.out.size
      clear hb6 hb7
      go_wp2_with (at_builtin; refine wpList_append_own _ rfl _ _ 34 rfl w4.heap.size 3 i0 (.int .i64 0) 1 8 Try.underlying34 hi hz0 hz1 hz2 rfl (by decide) _ _ _ rfl (HOW.out.alloc _) ⟨_, 0, none⟩ 1 1 [.int .i64 y1] rfl rfl (row_at _ _ _ (by simp)) (by simp [Value.oneCell']) (by simp only [maxLen]; omega) (by omega) (by simp; omega) ?_; intro h'' w9 hown' hgrow _)
      go_roundw
      case rel =>
        refine ⟨j + 1, by omega, by rw [HNX.out], hide ⟨?_, ?_⟩⟩
        · rw [HPL.out, List.flatMap_append]; exact hown'
        · exact (HBW.out.alloc hsz7 _).grown hgrow (by simp; omega) (own_ge HOW.out)
      case measure =>
        show (w64 (to - iv2)).toNat < (w64 (to - iv)).toNat
        have ha := HGL.out j (by omega)
        have hb := HGL.out (j + 1) (by omega)
        rw [HIV.out] at ha
        rw [HNX.out] at hb
        omega
    · have hjD : j = D := by omega
      obtain rfl : iv = to := by rw [← hiv, hjD]; exact HGE.out
      have q0 : (iv != iv) = false := by simp
      clear hiv
      go_wp2
      go_ret
      have := items_fin (r := r) (n := rn) HA.out (by rw [List.length_map, List.length_map, plL_len]) (by rw [HR.out, hjD]) HRN.out
      obtain ⟨A9, c9, h91, h92, h93, h94⟩ := this
      exact ⟨A9, c9, h91, h92, h93, bcall HB2.out h94⟩
theorem ritems_E (p s c b t x : Int) (v : Value) (m : List Int) (base n : Int) (w : World) (h : Cells w v m) (hm : AllU m) (hbig : m.length * 8 ≤ 140737488351232) (hbase : I6 base) (hn : I6 n)
    (p2 : (p == 2) = false) (p4 : (p == 4) = false) (p5 : (p == 5) = false) (p3 : (p == 3) = false) (hx : extF ⟨2, p, s, c, b, t, x, 0⟩ = false) (r : List Int) (hr : itemsF m base n ⟨2, p, s, c, b, t, x, 0⟩ = r) (rn : Nat) (hrn : r.length = rn) :
    Calls Try.prog 16 #[v, .int .i64 base, .int .i64 n, mvv 2 p s c b t x 0] w (ItemsEnd w r rn) := by
  by_cases hc : s64 ((loadF m (s64 (base + 1))) - loadF m base) ≤ 0
  · exact ritems_En1 p s c b t x v m base n w h hm hbig hbase hn _ _ _ _ _ _ rfl rfl rfl rfl p2 p4 p5 p3 rfl (end_no rfl rfl (load_U hm _) hx) rfl _ rfl hc r hr rn hrn
  · by_cases hc2 : min (max n 1) 64 < w64 ((loadF m (s64 (base + 1))) - loadF m base)
    · exact ritems_En2 p s c b t x v m base n w h hm hbig hbase hn _ _ _ _ _ _ rfl rfl rfl rfl p2 p4 p5 p3 rfl (end_no rfl rfl (load_U hm _) hx) rfl _ rfl hc hc2 r hr rn hrn
    · have h0 := (w64_U' ((loadF m (s64 (base + 1))) - loadF m base)).1
      have h1 : w64 ((loadF m (s64 (base + 1))) - loadF m base) ≠ 0 := fun e => hc (by rw [← s64_w64, e]; decide)
      exact ritems_Eok p s c b t x v m base n w h hm hbig hbase hn _ _ _ _ _ _ rfl rfl rfl rfl p2 p4 p5 p3 rfl (end_no rfl rfl (load_U hm _) hx) rfl _ (Int.toNat_of_nonneg h0).symm (by omega) (by omega) r hr rn hrn
end Go.Proofs.Ytimjlgglhonhkaa
/- Layer deque, the document's answer: Items, by the owner's cases. -/
namespace Go.Proofs.Ytimjlgglhonhkaa
open Go.RowKit

set_option maxRecDepth 100000 in
set_option maxHeartbeats 4000000 in
theorem ritems_Yn1 (s c b t x b1 : Int) (v : Value) (m : List Int) (base n : Int) (w : World) (h : Cells w v m) (hm : AllU m) (hbig : m.length * 8 ≤ 140737488351232) (hbase : I6 base) (hn : I6 n) (q fr to T d mm : Int) (hq : s64 (base + 1) = q) (hf : loadF m base = fr) (hto : loadF m q = to) (hmm : min (max n 1) 64 = mm)
    (hb1_ : w64 (b - 1) = b1) (q2 : (t == b1) = true) (hT : w64 (to + 1) = T) (hE : endF m base ⟨2, 3, s, c, b, t, x, 0⟩ = T) (hd : w64 (T - fr) = d) (ds : Int) (hds : s64 (T - fr) = ds) (hc : ds ≤ 0) (r : List Int) (hr : itemsF m base n ⟨2, 3, s, c, b, t, x, 0⟩ = r) (rn : Nat) (hrn : r.length = rn) :
    Calls Try.prog 16 #[v, .int .i64 base, .int .i64 n, mvv 2 3 s c b t x 0] w (ItemsEnd w r rn) := by
  obtain ⟨w1, e1, hb1, M1⟩ := rbox_one w 2 3 s c b t x 0
  have HMB := hide M1
  have HC := hide (h.below hb1)
  have e4 : IntKind.i64.wrap (base + 1) = q := by rw [wrap_s]; exact hq
  have e5 : wrap64 (base + 1) = q := by rw [wrap64_s]; exact hq
  have HF := hide hf
  have HTO := hide hto
  obtain ⟨w2, e2, hb2, M2⟩ := rbox_one w1 0 0 base n 0 0 0 0
  have HE2 := hide e2
  have HM1 := hide (HMB.out.below hb2)
  have HM2 := hide M2
  have HC2 := hide (HC.out.below hb2)
  have HB2 := hide (bcall hb1 hb2)
  have HBG := hide hbig
  have HNN := hide hn
  have HRN := hide hrn
  have HHM := hide hm
  have HHB := hide hbase
  have e7 : IntKind.u64.wrap (T - fr) = d := by rw [wrap_w]; exact hd
  have hmm1 : 1 ≤ mm ∧ mm ≤ 64 := by omega
  have e10 : IntKind.u64.wrap mm = mm := by rw [wrap_w]; exact w64_small (by omega) (by omega)
  have e6 : IntKind.u64.wrap (to + 1) = T := by rw [wrap_w]; exact hT
  have eb1 : IntKind.u64.wrap (b - 1) = b1 := by rw [wrap_w]; exact hb1_
  have e8 : IntKind.i64.wrap d = ds := by rw [wrap_s, ← hd, s64_w64]; exact hds
  have e9 : wrap64 d = ds := by rw [wrap64_s, ← hd, s64_w64]; exact hds
  have HR := hide (show r = [] by
    rw [← hr]; unfold itemsF; simp only [hE, hf, hd, hds, hmm]; rw [if_pos (.inl hc)])
  have d1 : decide (ds ≤ 0) = true := decide_eq_true hc
  clear hb1 hb2 M1 M2 hf hto hbig hn hE hq hd hrn hr h hm hbase hb1_ hds
  clear hT
  go_enter Try.func16, Try.ntmps16
  go_upto_region 1 with (fail)
  clear e1 e2
  go_wp2_with fail
  rw [HE2.out]
  (with_reducible refine (rload_any _ m base fr HF.out _ HC2.out HBG.out).mono ?_)
  rintro e w3 ⟨rfl, hb3⟩
  have HM1 := hide (HM1.out.below hb3)
  have HM2 := hide (HM2.out.below hb3)
  have HC2 := hide (HC2.out.below hb3)
  have HB2 := hide (bcall HB2.out hb3)
  clear hb3
  go_wp2_with fail
  (with_reducible refine (rload_any _ m q to HTO.out _ HC2.out HBG.out).mono ?_)
  rintro e w4 ⟨rfl, hb4⟩
  have HM1 := hide (HM1.out.below hb4)
  have HM2 := hide (HM2.out.below hb4)
  have HC2 := hide (HC2.out.below hb4)
  have HB2 := hide (bcall HB2.out hb4)
  clear hb4
  obtain ⟨a0, a1, a2, a3, a4, a5, a6, a7⟩ := HM1.out.cells
  go_wp2
  go_ret
  have := items_fin (r := r) (n := rn) (⟨World.ownsRow_nil _ _ _ _, Below.refl _ _⟩ : ItAt w4 w4 [] 0 (.slice none 0 0)) rfl HR.out HRN.out
  obtain ⟨A9, c9, h91, h92, h93, h94⟩ := this
  exact ⟨A9, c9, h91, h92, h93, bcall HB2.out h94⟩
set_option maxRecDepth 100000 in
set_option maxHeartbeats 4000000 in
theorem ritems_Yn2 (s c b t x b1 : Int) (v : Value) (m : List Int) (base n : Int) (w : World) (h : Cells w v m) (hm : AllU m) (hbig : m.length * 8 ≤ 140737488351232) (hbase : I6 base) (hn : I6 n) (q fr to T d mm : Int) (hq : s64 (base + 1) = q) (hf : loadF m base = fr) (hto : loadF m q = to) (hmm : min (max n 1) 64 = mm)
    (hb1_ : w64 (b - 1) = b1) (q2 : (t == b1) = true) (hT : w64 (to + 1) = T) (hE : endF m base ⟨2, 3, s, c, b, t, x, 0⟩ = T) (hd : w64 (T - fr) = d) (ds : Int) (hds : s64 (T - fr) = ds) (hc : ¬ ds ≤ 0) (hc2 : mm < d) (r : List Int) (hr : itemsF m base n ⟨2, 3, s, c, b, t, x, 0⟩ = r) (rn : Nat) (hrn : r.length = rn) :
    Calls Try.prog 16 #[v, .int .i64 base, .int .i64 n, mvv 2 3 s c b t x 0] w (ItemsEnd w r rn) := by
  obtain ⟨w1, e1, hb1, M1⟩ := rbox_one w 2 3 s c b t x 0
  have HMB := hide M1
  have HC := hide (h.below hb1)
  have e4 : IntKind.i64.wrap (base + 1) = q := by rw [wrap_s]; exact hq
  have e5 : wrap64 (base + 1) = q := by rw [wrap64_s]; exact hq
  have HF := hide hf
  have HTO := hide hto
  obtain ⟨w2, e2, hb2, M2⟩ := rbox_one w1 0 0 base n 0 0 0 0
  have HE2 := hide e2
  have HM1 := hide (HMB.out.below hb2)
  have HM2 := hide M2
  have HC2 := hide (HC.out.below hb2)
  have HB2 := hide (bcall hb1 hb2)
  have HBG := hide hbig
  have HNN := hide hn
  have HRN := hide hrn
  have HHM := hide hm
  have HHB := hide hbase
  have e7 : IntKind.u64.wrap (T - fr) = d := by rw [wrap_w]; exact hd
  have hmm1 : 1 ≤ mm ∧ mm ≤ 64 := by omega
  have e10 : IntKind.u64.wrap mm = mm := by rw [wrap_w]; exact w64_small (by omega) (by omega)
  have e6 : IntKind.u64.wrap (to + 1) = T := by rw [wrap_w]; exact hT
  have eb1 : IntKind.u64.wrap (b - 1) = b1 := by rw [wrap_w]; exact hb1_
  have e8 : IntKind.i64.wrap d = ds := by rw [wrap_s, ← hd, s64_w64]; exact hds
  have e9 : wrap64 d = ds := by rw [wrap64_s, ← hd, s64_w64]; exact hds
  have HR := hide (show r = [] by
    rw [← hr]; unfold itemsF; simp only [hE, hf, hd, hds, hmm]; rw [if_pos (.inr hc2)])
  have d1 : decide (ds ≤ 0) = false := decide_eq_false hc
  have d2 : decide (mm < d) = true := decide_eq_true hc2
  clear hb1 hb2 M1 M2 hf hto hbig hn hE hq hd hrn hr h hm hbase hb1_ hds
  clear hT
  go_enter Try.func16, Try.ntmps16
  go_upto_region 1 with (fail)
  clear e1 e2
  go_wp2_with fail
  rw [HE2.out]
  (with_reducible refine (rload_any _ m base fr HF.out _ HC2.out HBG.out).mono ?_)
  rintro e w3 ⟨rfl, hb3⟩
  have HM1 := hide (HM1.out.below hb3)
  have HM2 := hide (HM2.out.below hb3)
  have HC2 := hide (HC2.out.below hb3)
  have HB2 := hide (bcall HB2.out hb3)
  clear hb3
  go_wp2_with fail
  (with_reducible refine (rload_any _ m q to HTO.out _ HC2.out HBG.out).mono ?_)
  rintro e w4 ⟨rfl, hb4⟩
  have HM1 := hide (HM1.out.below hb4)
  have HM2 := hide (HM2.out.below hb4)
  have HC2 := hide (HC2.out.below hb4)
  have HB2 := hide (bcall HB2.out hb4)
  clear hb4
  obtain ⟨a0, a1, a2, a3, a4, a5, a6, a7⟩ := HM1.out.cells
  go_wp2
  go_ret
  have := items_fin (r := r) (n := rn) (⟨World.ownsRow_nil _ _ _ _, Below.refl _ _⟩ : ItAt w4 w4 [] 0 (.slice none 0 0)) rfl HR.out HRN.out
  obtain ⟨A9, c9, h91, h92, h93, h94⟩ := this
  exact ⟨A9, c9, h91, h92, h93, bcall HB2.out h94⟩
set_option maxRecDepth 100000 in
set_option maxHeartbeats 4000000 in
theorem ritems_Yok (s c b t x b1 : Int) (v : Value) (m : List Int) (base n : Int) (w : World) (h : Cells w v m) (hm : AllU m) (hbig : m.length * 8 ≤ 140737488351232) (hbase : I6 base) (hn : I6 n) (q fr to T d mm : Int) (hq : s64 (base + 1) = q) (hf : loadF m base = fr) (hto : loadF m q = to) (hmm : min (max n 1) 64 = mm)
    (hb1_ : w64 (b - 1) = b1) (q2 : (t == b1) = true) (hT : w64 (to + 1) = T) (hE : endF m base ⟨2, 3, s, c, b, t, x, 0⟩ = T) (hd : w64 (T - fr) = d) (D : Nat) (hD : d = D) (hD1 : 0 < D) (hD2 : d ≤ mm) (r : List Int) (hr : itemsF m base n ⟨2, 3, s, c, b, t, x, 0⟩ = r) (rn : Nat) (hrn : r.length = rn) :
    Calls Try.prog 16 #[v, .int .i64 base, .int .i64 n, mvv 2 3 s c b t x 0] w (ItemsEnd w r rn) := by
  obtain ⟨w1, e1, hb1, M1⟩ := rbox_one w 2 3 s c b t x 0
  have HMB := hide M1
  have HC := hide (h.below hb1)
  have e4 : IntKind.i64.wrap (base + 1) = q := by rw [wrap_s]; exact hq
  have e5 : wrap64 (base + 1) = q := by rw [wrap64_s]; exact hq
  have HF := hide hf
  have HTO := hide hto
  obtain ⟨w2, e2, hb2, M2⟩ := rbox_one w1 0 0 base n 0 0 0 0
  have HE2 := hide e2
  have HM1 := hide (HMB.out.below hb2)
  have HM2 := hide M2
  have HC2 := hide (HC.out.below hb2)
  have HB2 := hide (bcall hb1 hb2)
  have HBG := hide hbig
  have HNN := hide hn
  have HRN := hide hrn
  have HHM := hide hm
  have HHB := hide hbase
  have e7 : IntKind.u64.wrap (T - fr) = d := by rw [wrap_w]; exact hd
  have hmm1 : 1 ≤ mm ∧ mm ≤ 64 := by omega
  have e10 : IntKind.u64.wrap mm = mm := by rw [wrap_w]; exact w64_small (by omega) (by omega)
  have e6 : IntKind.u64.wrap (to + 1) = T := by rw [wrap_w]; exact hT
  have eb1 : IntKind.u64.wrap (b - 1) = b1 := by rw [wrap_w]; exact hb1_
  have hUT : U T := by rw [← hT]; exact w64_U' _
  have h64 : D ≤ 64 := by omega
  have hfU := load_U hm base
  rw [hf] at hfU
  have HR := hide (show r = ((plL fr base n D).map (loadF m)).map s64 by rw [← hr]; exact items_fit hf hE hd (by rw [hmm]; exact hD2) D hD)
  have HGE := hide (go_end hUT hd D hD)
  have HFR := hide (show w64 (fr + ((0 : Nat) : Int)) = fr by unfold U at hfU; rw [show fr + ((0 : Nat) : Int) = fr by simp]; exact w64_small hfU.1 hfU.2)
  have HGN := hide (fun (j : Nat) (hj : j < D) => go_ne hUT hd hD h64 hj)
  have HGL := hide (fun (j : Nat) (hj : j ≤ D) => go_left hUT hd hD hj h64)
  have e8 : IntKind.i64.wrap d = d := by rw [wrap_s]; exact s64_small (by omega) (by omega)
  have e9 : wrap64 d = d := by rw [wrap64_s]; exact s64_small (by omega) (by omega)
  have d1 : decide (d ≤ 0) = false := decide_eq_false (by omega)
  have d2 : decide (mm < d) = false := decide_eq_false (by omega)
  clear hUT hfU
  clear hb1 hb2 M1 M2 hf hto hbig hn hE hq hd hrn hr h hm hbase hb1_
  clear hT
  go_enter Try.func16, Try.ntmps16
  go_upto_region 1 with (fail)
  clear e1 e2
  go_wp2_with fail
  rw [HE2.out]
  (with_reducible refine (rload_any _ m base fr HF.out _ HC2.out HBG.out).mono ?_)
  rintro e w3 ⟨rfl, hb3⟩
  have HM1 := hide (HM1.out.below hb3)
  have HM2 := hide (HM2.out.below hb3)
  have HC2 := hide (HC2.out.below hb3)
  have HB2 := hide (bcall HB2.out hb3)
  clear hb3
  go_wp2_with fail
  (with_reducible refine (rload_any _ m q to HTO.out _ HC2.out HBG.out).mono ?_)
  rintro e w4 ⟨rfl, hb4⟩
  have HM1 := hide (HM1.out.below hb4)
  have HM2 := hide (HM2.out.below hb4)
  have HC2 := hide (HC2.out.below hb4)
  have HB2 := hide (bcall HB2.out hb4)
  clear hb4
  obtain ⟨a0, a1, a2, a3, a4, a5, a6, a7⟩ := HM1.out.cells
  obtain ⟨i0, hi, hz0, hz1, hz2⟩ := info_parts infoI
  go_wp2
  go_loopw [13, 14] (fun ov iv wr => ∃ j : Nat, j ≤ D ∧ iv = .int .u64 (w64 (fr + (j : Nat))) ∧ Hid (ItAt w4 wr (((plL fr base n j).map (loadF m)).map s64) j ov)) (fun _ iv _ => (w64 (T - Go.RowKit.intOf iv)).toNat)
  case atStart => exact ⟨0, Nat.zero_le _, by rw [HFR.out], hide ⟨World.ownsRow_nil _ _ _ _, Below.refl _ _⟩⟩
  case round =>
    obtain ⟨j, hj, rfl, HA⟩ := hrel
    obtain ⟨iv, hiv⟩ : ∃ iv, w64 (fr + (j : Nat)) = iv := ⟨_, rfl⟩
    have HIV := hide hiv
    rw [hiv]
    have hsz := HA.out.below.size
    by_cases hlt : j < D
    · have q0 : (iv != T) = true := by rw [bne_iff_ne, ← hiv]; exact HGN.out j hlt
      obtain ⟨pq, hpq⟩ : ∃ pq, plF fr base n j = pq := ⟨_, rfl⟩
      have HPQ := hide (show s64 (base + 2 + iv % max n 1) = pq by rw [← hiv]; exact hpq)
      have HU := hide (show U iv by rw [← hiv]; exact w64_U' _)
      obtain ⟨y, hy⟩ : ∃ y, loadF m pq = y := ⟨_, rfl⟩
      have HY := hide hy
      obtain ⟨y1, hy1⟩ : ∃ y1, s64 y = y1 := ⟨_, rfl⟩
      have HPL := hide (show ((plL fr base n (j + 1)).map (loadF m)).map s64 = ((plL fr base n j).map (loadF m)).map s64 ++ [y1] by rw [plL_succ, List.map_append, List.map_append, hpq]; simp [hy, hy1])
      have e11 : IntKind.i64.wrap y = y1 := by rw [wrap_s]; exact hy1
      have e12 : wrap64 y = y1 := by rw [wrap64_s]; exact hy1
      obtain ⟨iv2, hiv2⟩ : ∃ iv2, w64 (iv + 1) = iv2 := ⟨_, rfl⟩
      have e13 : IntKind.u64.wrap (iv + 1) = iv2 := by rw [wrap_w]; exact hiv2
      have HNX := hide (show w64 (fr + ((j + 1 : Nat) : Int)) = iv2 by rw [← hiv2, ← hiv]; exact (go_next fr j).symm)
      have HDB := hide (HM2.out.below HA.out.below)
      obtain ⟨z0, z1, z2, z3, z4, z5, z6, z7⟩ := HDB.out.cells
      have HCA := hide (HC2.out.below HA.out.below)
      clear hpq hiv hiv2 hy hy1
      go_wp2_with fail
      (with_reducible refine (rplace_any 0 0 base n 0 0 0 0 iv pq HNN.out HU.out HPQ.out _).mono ?_)
      rintro e w6 ⟨rfl, hb6⟩
      have HCA := hide (HCA.out.below hb6)
      go_wp2_with fail
      (with_reducible refine (rload_any _ m pq y HY.out _ HCA.out HBG.out).mono ?_)
      rintro e w7 ⟨rfl, hb7⟩
      have HOW := hide (own_below (own_below HA.out.own hb6) hb7)
      have HBW := hide (bcall (bcall HA.out.below hb6) hb7)
      have hsz7 := HBW.out.size
      clear hb6 hb7
      go_wp2_with (at_builtin; refine wpList_append_own _ rfl _ _ 34 rfl w4.heap.size 3 i0 (.int .i64 0) 1 8 Try.underlying34 hi hz0 hz1 hz2 rfl (by decide) _ _ _ rfl (HOW.out.alloc _) ⟨_, 0, none⟩ 1 1 [.int .i64 y1] rfl rfl (row_at _ _ _ (by simp)) (by simp [Value.oneCell']) (by simp only [maxLen]; omega) (by omega) (by simp; omega) ?_; intro h'' w9 hown' hgrow _)
      go_roundw
      case rel =>
        refine ⟨j + 1, by omega, by rw [HNX.out], hide ⟨?_, ?_⟩⟩
        · rw [HPL.out, List.flatMap_append]; exact hown'
        · exact (HBW.out.alloc hsz7 _).grown hgrow (by simp; omega) (own_ge HOW.out)
      case measure =>
        show (w64 (T - iv2)).toNat < (w64 (T - iv)).toNat
        have ha := HGL.out j (by omega)
        have hb := HGL.out (j + 1) (by omega)
        rw [HIV.out] at ha
        rw [HNX.out] at hb
        omega
    · have hjD : j = D := by omega
      obtain rfl : iv = T := by rw [← hiv, hjD]; exact HGE.out
      have q0 : (iv != iv) = false := by simp
      clear hiv
      go_wp2
      go_ret
      have := items_fin (r := r) (n := rn) HA.out (by rw [List.length_map, List.length_map, plL_len]) (by rw [HR.out, hjD]) HRN.out
      obtain ⟨A9, c9, h91, h92, h93, h94⟩ := this
      exact ⟨A9, c9, h91, h92, h93, bcall HB2.out h94⟩
theorem ritems_Y (s c b t x b1 : Int) (v : Value) (m : List Int) (base n : Int) (w : World) (h : Cells w v m) (hm : AllU m) (hbig : m.length * 8 ≤ 140737488351232) (hbase : I6 base) (hn : I6 n)
    (hb1_ : w64 (b - 1) = b1) (q2 : (t == b1) = true) (hx : extF ⟨2, 3, s, c, b, t, x, 0⟩ = true) (r : List Int) (hr : itemsF m base n ⟨2, 3, s, c, b, t, x, 0⟩ = r) (rn : Nat) (hrn : r.length = rn) :
    Calls Try.prog 16 #[v, .int .i64 base, .int .i64 n, mvv 2 3 s c b t x 0] w (ItemsEnd w r rn) := by
  by_cases hc : s64 ((w64 (loadF m (s64 (base + 1)) + 1)) - loadF m base) ≤ 0
  · exact ritems_Yn1 s c b t x b1 v m base n w h hm hbig hbase hn _ _ _ _ _ _ rfl rfl rfl rfl hb1_ q2 rfl (end_yes rfl rfl hx) rfl _ rfl hc r hr rn hrn
  · by_cases hc2 : min (max n 1) 64 < w64 ((w64 (loadF m (s64 (base + 1)) + 1)) - loadF m base)
    · exact ritems_Yn2 s c b t x b1 v m base n w h hm hbig hbase hn _ _ _ _ _ _ rfl rfl rfl rfl hb1_ q2 rfl (end_yes rfl rfl hx) rfl _ rfl hc hc2 r hr rn hrn
    · have h0 := (w64_U' ((w64 (loadF m (s64 (base + 1)) + 1)) - loadF m base)).1
      have h1 : w64 ((w64 (loadF m (s64 (base + 1)) + 1)) - loadF m base) ≠ 0 := fun e => hc (by rw [← s64_w64, e]; decide)
      exact ritems_Yok s c b t x b1 v m base n w h hm hbig hbase hn _ _ _ _ _ _ rfl rfl rfl rfl hb1_ q2 rfl (end_yes rfl rfl hx) rfl _ (Int.toNat_of_nonneg h0).symm (by omega) (by omega) r hr rn hrn
set_option maxRecDepth 100000 in
set_option maxHeartbeats 4000000 in
theorem ritems_Nn1 (s c b t x b1 : Int) (v : Value) (m : List Int) (base n : Int) (w : World) (h : Cells w v m) (hm : AllU m) (hbig : m.length * 8 ≤ 140737488351232) (hbase : I6 base) (hn : I6 n) (q fr to T d mm : Int) (hq : s64 (base + 1) = q) (hf : loadF m base = fr) (hto : loadF m q = to) (hmm : min (max n 1) 64 = mm)
    (hb1_ : w64 (b - 1) = b1) (q2 : (t == b1) = false) (hT : to = T) (hE : endF m base ⟨2, 3, s, c, b, t, x, 0⟩ = T) (hd : w64 (T - fr) = d) (ds : Int) (hds : s64 (T - fr) = ds) (hc : ds ≤ 0) (r : List Int) (hr : itemsF m base n ⟨2, 3, s, c, b, t, x, 0⟩ = r) (rn : Nat) (hrn : r.length = rn) :
    Calls Try.prog 16 #[v, .int .i64 base, .int .i64 n, mvv 2 3 s c b t x 0] w (ItemsEnd w r rn) := by
  obtain ⟨w1, e1, hb1, M1⟩ := rbox_one w 2 3 s c b t x 0
  have HMB := hide M1
  have HC := hide (h.below hb1)
  have e4 : IntKind.i64.wrap (base + 1) = q := by rw [wrap_s]; exact hq
  have e5 : wrap64 (base + 1) = q := by rw [wrap64_s]; exact hq
  have HF := hide hf
  have HTO := hide hto
  obtain ⟨w2, e2, hb2, M2⟩ := rbox_one w1 0 0 base n 0 0 0 0
  have HE2 := hide e2
  have HM1 := hide (HMB.out.below hb2)
  have HM2 := hide M2
  have HC2 := hide (HC.out.below hb2)
  have HB2 := hide (bcall hb1 hb2)
  have HBG := hide hbig
  have HNN := hide hn
  have HRN := hide hrn
  have HHM := hide hm
  have HHB := hide hbase
  have e7 : IntKind.u64.wrap (T - fr) = d := by rw [wrap_w]; exact hd
  have hmm1 : 1 ≤ mm ∧ mm ≤ 64 := by omega
  have e10 : IntKind.u64.wrap mm = mm := by rw [wrap_w]; exact w64_small (by omega) (by omega)
  have eb1 : IntKind.u64.wrap (b - 1) = b1 := by rw [wrap_w]; exact hb1_
  have e8 : IntKind.i64.wrap d = ds := by rw [wrap_s, ← hd, s64_w64]; exact hds
  have e9 : wrap64 d = ds := by rw [wrap64_s, ← hd, s64_w64]; exact hds
  have HR := hide (show r = [] by
    rw [← hr]; unfold itemsF; simp only [hE, hf, hd, hds, hmm]; rw [if_pos (.inl hc)])
  have d1 : decide (ds ≤ 0) = true := decide_eq_true hc
  clear hb1 hb2 M1 M2 hf hto hbig hn hE hq hd hrn hr h hm hbase hb1_ hds
  subst hT
  go_enter Try.func16, Try.ntmps16
  go_upto_region 1 with (fail)
  clear e1 e2
  go_wp2_with fail
  rw [HE2.out]
  (with_reducible refine (rload_any _ m base fr HF.out _ HC2.out HBG.out).mono ?_)
  rintro e w3 ⟨rfl, hb3⟩
  have HM1 := hide (HM1.out.below hb3)
  have HM2 := hide (HM2.out.below hb3)
  have HC2 := hide (HC2.out.below hb3)
  have HB2 := hide (bcall HB2.out hb3)
  clear hb3
  go_wp2_with fail
  (with_reducible refine (rload_any _ m q to HTO.out _ HC2.out HBG.out).mono ?_)
  rintro e w4 ⟨rfl, hb4⟩
  have HM1 := hide (HM1.out.below hb4)
  have HM2 := hide (HM2.out.below hb4)
  have HC2 := hide (HC2.out.below hb4)
  have HB2 := hide (bcall HB2.out hb4)
  clear hb4
  obtain ⟨a0, a1, a2, a3, a4, a5, a6, a7⟩ := HM1.out.cells
  go_wp2
  go_ret
  have := items_fin (r := r) (n := rn) (⟨World.ownsRow_nil _ _ _ _, Below.refl _ _⟩ : ItAt w4 w4 [] 0 (.slice none 0 0)) rfl HR.out HRN.out
  obtain ⟨A9, c9, h91, h92, h93, h94⟩ := this
  exact ⟨A9, c9, h91, h92, h93, bcall HB2.out h94⟩
set_option maxRecDepth 100000 in
set_option maxHeartbeats 4000000 in
theorem ritems_Nn2 (s c b t x b1 : Int) (v : Value) (m : List Int) (base n : Int) (w : World) (h : Cells w v m) (hm : AllU m) (hbig : m.length * 8 ≤ 140737488351232) (hbase : I6 base) (hn : I6 n) (q fr to T d mm : Int) (hq : s64 (base + 1) = q) (hf : loadF m base = fr) (hto : loadF m q = to) (hmm : min (max n 1) 64 = mm)
    (hb1_ : w64 (b - 1) = b1) (q2 : (t == b1) = false) (hT : to = T) (hE : endF m base ⟨2, 3, s, c, b, t, x, 0⟩ = T) (hd : w64 (T - fr) = d) (ds : Int) (hds : s64 (T - fr) = ds) (hc : ¬ ds ≤ 0) (hc2 : mm < d) (r : List Int) (hr : itemsF m base n ⟨2, 3, s, c, b, t, x, 0⟩ = r) (rn : Nat) (hrn : r.length = rn) :
    Calls Try.prog 16 #[v, .int .i64 base, .int .i64 n, mvv 2 3 s c b t x 0] w (ItemsEnd w r rn) := by
  obtain ⟨w1, e1, hb1, M1⟩ := rbox_one w 2 3 s c b t x 0
  have HMB := hide M1
  have HC := hide (h.below hb1)
  have e4 : IntKind.i64.wrap (base + 1) = q := by rw [wrap_s]; exact hq
  have e5 : wrap64 (base + 1) = q := by rw [wrap64_s]; exact hq
  have HF := hide hf
  have HTO := hide hto
  obtain ⟨w2, e2, hb2, M2⟩ := rbox_one w1 0 0 base n 0 0 0 0
  have HE2 := hide e2
  have HM1 := hide (HMB.out.below hb2)
  have HM2 := hide M2
  have HC2 := hide (HC.out.below hb2)
  have HB2 := hide (bcall hb1 hb2)
  have HBG := hide hbig
  have HNN := hide hn
  have HRN := hide hrn
  have HHM := hide hm
  have HHB := hide hbase
  have e7 : IntKind.u64.wrap (T - fr) = d := by rw [wrap_w]; exact hd
  have hmm1 : 1 ≤ mm ∧ mm ≤ 64 := by omega
  have e10 : IntKind.u64.wrap mm = mm := by rw [wrap_w]; exact w64_small (by omega) (by omega)
  have eb1 : IntKind.u64.wrap (b - 1) = b1 := by rw [wrap_w]; exact hb1_
  have e8 : IntKind.i64.wrap d = ds := by rw [wrap_s, ← hd, s64_w64]; exact hds
  have e9 : wrap64 d = ds := by rw [wrap64_s, ← hd, s64_w64]; exact hds
  have HR := hide (show r = [] by
    rw [← hr]; unfold itemsF; simp only [hE, hf, hd, hds, hmm]; rw [if_pos (.inr hc2)])
  have d1 : decide (ds ≤ 0) = false := decide_eq_false hc
  have d2 : decide (mm < d) = true := decide_eq_true hc2
  clear hb1 hb2 M1 M2 hf hto hbig hn hE hq hd hrn hr h hm hbase hb1_ hds
  subst hT
  go_enter Try.func16, Try.ntmps16
  go_upto_region 1 with (fail)
  clear e1 e2
  go_wp2_with fail
  rw [HE2.out]
  (with_reducible refine (rload_any _ m base fr HF.out _ HC2.out HBG.out).mono ?_)
  rintro e w3 ⟨rfl, hb3⟩
  have HM1 := hide (HM1.out.below hb3)
  have HM2 := hide (HM2.out.below hb3)
  have HC2 := hide (HC2.out.below hb3)
  have HB2 := hide (bcall HB2.out hb3)
  clear hb3
  go_wp2_with fail
  (with_reducible refine (rload_any _ m q to HTO.out _ HC2.out HBG.out).mono ?_)
  rintro e w4 ⟨rfl, hb4⟩
  have HM1 := hide (HM1.out.below hb4)
  have HM2 := hide (HM2.out.below hb4)
  have HC2 := hide (HC2.out.below hb4)
  have HB2 := hide (bcall HB2.out hb4)
  clear hb4
  obtain ⟨a0, a1, a2, a3, a4, a5, a6, a7⟩ := HM1.out.cells
  go_wp2
  go_ret
  have := items_fin (r := r) (n := rn) (⟨World.ownsRow_nil _ _ _ _, Below.refl _ _⟩ : ItAt w4 w4 [] 0 (.slice none 0 0)) rfl HR.out HRN.out
  obtain ⟨A9, c9, h91, h92, h93, h94⟩ := this
  exact ⟨A9, c9, h91, h92, h93, bcall HB2.out h94⟩
set_option maxRecDepth 100000 in
set_option maxHeartbeats 4000000 in
theorem ritems_Nok (s c b t x b1 : Int) (v : Value) (m : List Int) (base n : Int) (w : World) (h : Cells w v m) (hm : AllU m) (hbig : m.length * 8 ≤ 140737488351232) (hbase : I6 base) (hn : I6 n) (q fr to T d mm : Int) (hq : s64 (base + 1) = q) (hf : loadF m base = fr) (hto : loadF m q = to) (hmm : min (max n 1) 64 = mm)
    (hb1_ : w64 (b - 1) = b1) (q2 : (t == b1) = false) (hT : to = T) (hE : endF m base ⟨2, 3, s, c, b, t, x, 0⟩ = T) (hd : w64 (T - fr) = d) (D : Nat) (hD : d = D) (hD1 : 0 < D) (hD2 : d ≤ mm) (r : List Int) (hr : itemsF m base n ⟨2, 3, s, c, b, t, x, 0⟩ = r) (rn : Nat) (hrn : r.length = rn) :
    Calls Try.prog 16 #[v, .int .i64 base, .int .i64 n, mvv 2 3 s c b t x 0] w (ItemsEnd w r rn) := by
  obtain ⟨w1, e1, hb1, M1⟩ := rbox_one w 2 3 s c b t x 0
  have HMB := hide M1
  have HC := hide (h.below hb1)
  have e4 : IntKind.i64.wrap (base + 1) = q := by rw [wrap_s]; exact hq
  have e5 : wrap64 (base + 1) = q := by rw [wrap64_s]; exact hq
  have HF := hide hf
  have HTO := hide hto
  obtain ⟨w2, e2, hb2, M2⟩ := rbox_one w1 0 0 base n 0 0 0 0
  have HE2 := hide e2
  have HM1 := hide (HMB.out.below hb2)
  have HM2 := hide M2
  have HC2 := hide (HC.out.below hb2)
  have HB2 := hide (bcall hb1 hb2)
  have HBG := hide hbig
  have HNN := hide hn
  have HRN := hide hrn
  have HHM := hide hm
  have HHB := hide hbase
  have e7 : IntKind.u64.wrap (T - fr) = d := by rw [wrap_w]; exact hd
  have hmm1 : 1 ≤ mm ∧ mm ≤ 64 := by omega
  have e10 : IntKind.u64.wrap mm = mm := by rw [wrap_w]; exact w64_small (by omega) (by omega)
  have eb1 : IntKind.u64.wrap (b - 1) = b1 := by rw [wrap_w]; exact hb1_
  have hUT : U T := by rw [← hT, ← hto]; exact load_U hm _
  have h64 : D ≤ 64 := by omega
  have hfU := load_U hm base
  rw [hf] at hfU
  have HR := hide (show r = ((plL fr base n D).map (loadF m)).map s64 by rw [← hr]; exact items_fit hf hE hd (by rw [hmm]; exact hD2) D hD)
  have HGE := hide (go_end hUT hd D hD)
  have HFR := hide (show w64 (fr + ((0 : Nat) : Int)) = fr by unfold U at hfU; rw [show fr + ((0 : Nat) : Int) = fr by simp]; exact w64_small hfU.1 hfU.2)
  have HGN := hide (fun (j : Nat) (hj : j < D) => go_ne hUT hd hD h64 hj)
  have HGL := hide (fun (j : Nat) (hj : j ≤ D) => go_left hUT hd hD hj h64)
  have e8 : IntKind.i64.wrap d = d := by rw [wrap_s]; exact s64_small (by omega) (by omega)
  have e9 : wrap64 d = d := by rw [wrap64_s]; exact s64_small (by omega) (by omega)
  have d1 : decide (d ≤ 0) = false := decide_eq_false (by omega)
  have d2 : decide (mm < d) = false := decide_eq_false (by omega)
  clear hUT hfU
  clear hb1 hb2 M1 M2 hf hto hbig hn hE hq hd hrn hr h hm hbase hb1_
  subst hT
  go_enter Try.func16, Try.ntmps16
  go_upto_region 1 with (fail)
  clear e1 e2
  go_wp2_with fail
  rw [HE2.out]
  (with_reducible refine (rload_any _ m base fr HF.out _ HC2.out HBG.out).mono ?_)
  rintro e w3 ⟨rfl, hb3⟩
  have HM1 := hide (HM1.out.below hb3)
  have HM2 := hide (HM2.out.below hb3)
  have HC2 := hide (HC2.out.below hb3)
  have HB2 := hide (bcall HB2.out hb3)
  clear hb3
  go_wp2_with fail
  (with_reducible refine (rload_any _ m q to HTO.out _ HC2.out HBG.out).mono ?_)
  rintro e w4 ⟨rfl, hb4⟩
  have HM1 := hide (HM1.out.below hb4)
  have HM2 := hide (HM2.out.below hb4)
  have HC2 := hide (HC2.out.below hb4)
  have HB2 := hide (bcall HB2.out hb4)
  clear hb4
  obtain ⟨a0, a1, a2, a3, a4, a5, a6, a7⟩ := HM1.out.cells
  obtain ⟨i0, hi, hz0, hz1, hz2⟩ := info_parts infoI
  go_wp2
  go_loopw [13, 14] (fun ov iv wr => ∃ j : Nat, j ≤ D ∧ iv = .int .u64 (w64 (fr + (j : Nat))) ∧ Hid (ItAt w4 wr (((plL fr base n j).map (loadF m)).map s64) j ov)) (fun _ iv _ => (w64 (to - Go.RowKit.intOf iv)).toNat)
  case atStart => exact ⟨0, Nat.zero_le _, by rw [HFR.out], hide ⟨World.ownsRow_nil _ _ _ _, Below.refl _ _⟩⟩
  case round =>
    obtain ⟨j, hj, rfl, HA⟩ := hrel
    obtain ⟨iv, hiv⟩ : ∃ iv, w64 (fr + (j : Nat)) = iv := ⟨_, rfl⟩
    have HIV := hide hiv
    rw [hiv]
    have hsz := HA.out.below.size
    by_cases hlt : j < D
    · have q0 : (iv != to) = true := by rw [bne_iff_ne, ← hiv]; exact HGN.out j hlt
      obtain ⟨pq, hpq⟩ : ∃ pq, plF fr base n j = pq := ⟨_, rfl⟩
      have HPQ := hide (show s64 (base + 2 + iv % max n 1) = pq by rw [← hiv]; exact hpq)
      have HU := hide (show U iv by rw [← hiv]; exact w64_U' _)
      obtain ⟨y, hy⟩ : ∃ y, loadF m pq = y := ⟨_, rfl⟩
      have HY := hide hy
      obtain ⟨y1, hy1⟩ : ∃ y1, s64 y = y1 := ⟨_, rfl⟩
      have HPL := hide (show ((plL fr base n (j + 1)).map (loadF m)).map s64 = ((plL fr base n j).map (loadF m)).map s64 ++ [y1] by rw [plL_succ, List.map_append, List.map_append, hpq]; simp [hy, hy1])
      have e11 : IntKind.i64.wrap y = y1 := by rw [wrap_s]; exact hy1
      have e12 : wrap64 y = y1 := by rw [wrap64_s]; exact hy1
      obtain ⟨iv2, hiv2⟩ : ∃ iv2, w64 (iv + 1) = iv2 := ⟨_, rfl⟩
      have e13 : IntKind.u64.wrap (iv + 1) = iv2 := by rw [wrap_w]; exact hiv2
      have HNX := hide (show w64 (fr + ((j + 1 : Nat) : Int)) = iv2 by rw [← hiv2, ← hiv]; exact (go_next fr j).symm)
      have HDB := hide (HM2.out.below HA.out.below)
      obtain ⟨z0, z1, z2, z3, z4, z5, z6, z7⟩ := HDB.out.cells
      have HCA := hide (HC2.out.below HA.out.below)
      clear hpq hiv hiv2 hy hy1
      go_wp2_with fail
      (with_reducible refine (rplace_any 0 0 base n 0 0 0 0 iv pq HNN.out HU.out HPQ.out _).mono ?_)
      rintro e w6 ⟨rfl, hb6⟩
      have HCA := hide (HCA.out.below hb6)
      go_wp2_with fail
      (with_reducible refine (rload_any _ m pq y HY.out _ HCA.out HBG.out).mono ?_)
      rintro e w7 ⟨rfl, hb7⟩
      have HOW := hide (own_below (own_below HA.out.own hb6) hb7)
      have HBW := hide (bcall (bcall HA.out.below hb6) hb7)
      have hsz7 := HBW.out.size
      clear hb6 hb7
      go_wp2_with (at_builtin; refine wpList_append_own _ rfl _ _ 34 rfl w4.heap.size 3 i0 (.int .i64 0) 1 8 Try.underlying34 hi hz0 hz1 hz2 rfl (by decide) _ _ _ rfl (HOW.out.alloc _) ⟨_, 0, none⟩ 1 1 [.int .i64 y1] rfl rfl (row_at _ _ _ (by simp)) (by simp [Value.oneCell']) (by simp only [maxLen]; omega) (by omega) (by simp; omega) ?_; intro h'' w9 hown' hgrow _)
      go_roundw
      case rel =>
        refine ⟨j + 1, by omega, by rw [HNX.out], hide ⟨?_, ?_⟩⟩
        · rw [HPL.out, List.flatMap_append]; exact hown'
        · exact (HBW.out.alloc hsz7 _).grown hgrow (by simp; omega) (own_ge HOW.out)
      case measure =>
        show (w64 (to - iv2)).toNat < (w64 (to - iv)).toNat
        have ha := HGL.out j (by omega)
        have hb := HGL.out (j + 1) (by omega)
        rw [HIV.out] at ha
        rw [HNX.out] at hb
        omega
    · have hjD : j = D := by omega
      obtain rfl : iv = to := by rw [← hiv, hjD]; exact HGE.out
      have q0 : (iv != iv) = false := by simp
      clear hiv
      go_wp2
      go_ret
      have := items_fin (r := r) (n := rn) HA.out (by rw [List.length_map, List.length_map, plL_len]) (by rw [HR.out, hjD]) HRN.out
      obtain ⟨A9, c9, h91, h92, h93, h94⟩ := this
      exact ⟨A9, c9, h91, h92, h93, bcall HB2.out h94⟩
theorem ritems_N (s c b t x b1 : Int) (v : Value) (m : List Int) (base n : Int) (w : World) (h : Cells w v m) (hm : AllU m) (hbig : m.length * 8 ≤ 140737488351232) (hbase : I6 base) (hn : I6 n)
    (hb1_ : w64 (b - 1) = b1) (q2 : (t == b1) = false) (hx : extF ⟨2, 3, s, c, b, t, x, 0⟩ = false) (r : List Int) (hr : itemsF m base n ⟨2, 3, s, c, b, t, x, 0⟩ = r) (rn : Nat) (hrn : r.length = rn) :
    Calls Try.prog 16 #[v, .int .i64 base, .int .i64 n, mvv 2 3 s c b t x 0] w (ItemsEnd w r rn) := by
  by_cases hc : s64 ((loadF m (s64 (base + 1))) - loadF m base) ≤ 0
  · exact ritems_Nn1 s c b t x b1 v m base n w h hm hbig hbase hn _ _ _ _ _ _ rfl rfl rfl rfl hb1_ q2 rfl (end_no rfl rfl (load_U hm _) hx) rfl _ rfl hc r hr rn hrn
  · by_cases hc2 : min (max n 1) 64 < w64 ((loadF m (s64 (base + 1))) - loadF m base)
    · exact ritems_Nn2 s c b t x b1 v m base n w h hm hbig hbase hn _ _ _ _ _ _ rfl rfl rfl rfl hb1_ q2 rfl (end_no rfl rfl (load_U hm _) hx) rfl _ rfl hc hc2 r hr rn hrn
    · have h0 := (w64_U' ((loadF m (s64 (base + 1))) - loadF m base)).1
      have h1 : w64 ((loadF m (s64 (base + 1))) - loadF m base) ≠ 0 := fun e => hc (by rw [← s64_w64, e]; decide)
      exact ritems_Nok s c b t x b1 v m base n w h hm hbig hbase hn _ _ _ _ _ _ rfl rfl rfl rfl hb1_ q2 rfl (end_no rfl rfl (load_U hm _) hx) rfl _ (Int.toNat_of_nonneg h0).symm (by omega) (by omega) r hr rn hrn
end Go.Proofs.Ytimjlgglhonhkaa
/- Layer deque, the document's answer: Items, whatever there is. -/
namespace Go.Proofs.Ytimjlgglhonhkaa
open Go.RowKit

theorem rItems_any (k p s c b t x u : Int) (v : Value) (m : List Int) (base n : Int) (w : World) (h : Cells w v m) (hm : AllU m) (hbig : m.length * 8 ≤ 140737488351232) (hbase : I6 base) (hn : I6 n) (r : List Int) (hr : itemsF m base n ⟨k, p, s, c, b, t, x, u⟩ = r) (rn : Nat) (hrn : r.length = rn) :
    Calls Try.prog 16 #[v, .int .i64 base, .int .i64 n, mvv k p s c b t x u] w (ItemsEnd w r rn) := by
  by_cases hk : k = 2
  · subst hk
    by_cases hu : u = 0
    · subst hu
      by_cases p2 : p = 2
      · subst p2; exact ritems_C2 s c b t x v m base n w h hm hbig hbase hn (by simp [extF]) r hr rn hrn
      by_cases p4 : p = 4
      · subst p4; exact ritems_C4 s c b t x v m base n w h hm hbig hbase hn (by simp [extF]) r hr rn hrn
      by_cases p5 : p = 5
      · subst p5; exact ritems_C5 s c b t x v m base n w h hm hbig hbase hn (by simp [extF]) r hr rn hrn
      by_cases p3 : p = 3
      · subst p3
        by_cases ht : t = w64 (b - 1)
        · exact ritems_Y s c b t x _ v m base n w h hm hbig hbase hn rfl (by rw [beq_iff_eq]; exact ht) (by simp [extF, ← ht]) r hr rn hrn
        · exact ritems_N s c b t x _ v m base n w h hm hbig hbase hn rfl (by rw [beq_eq_false_iff_ne]; exact ht) (by simp [extF, ht]) r hr rn hrn
      exact ritems_E p s c b t x v m base n w h hm hbig hbase hn (beq_eq_false_iff_ne.2 p2) (beq_eq_false_iff_ne.2 p4) (beq_eq_false_iff_ne.2 p5) (beq_eq_false_iff_ne.2 p3) (by simp [extF, p2, p3, p4, p5]) r hr rn hrn
    · exact ritems_B p s c b t x u v m base n w h hm hbig hbase hn (beq_eq_false_iff_ne.2 hu) (by simp [extF, hu]) r hr rn hrn
  · exact ritems_A k p s c b t x u v m base n w h hm hbig hbase hn (beq_eq_false_iff_ne.2 hk) (by simp [extF, hk]) r hr rn hrn
end Go.Proofs.Ytimjlgglhonhkaa
