/- Layer chain, the document's answer: Step, by leaves. -/
import Derived.Test.YtpffknlbffnafaaRefChainS
namespace Go.Proofs.Ytpffknlbffnafaa.ch
open Go.RowKit

set_option maxRecDepth 100000 in
set_option maxHeartbeats 4000000 in
theorem rpush_0 (s c b t x : Int) (v : Value) (m : List Int) (w : World) (h : Cells w v m) (hbig : m.length * 8 ≤ 140737488351232) (hb : U b) (y : Int) (hy : loadF m s = y) :
    Calls Try.prog 7 #[v, mvv 1 0 s c b t x 0] w (REnd v w m ⟨1, 1, s, c, y, t, x, 0⟩) := by
  obtain ⟨w1, e1, hb1, hs1, M1, R1⟩ := rbox_two w 1 0 s c b t x 0
  have HE := hide e1
  obtain ⟨A0, c0, rfl, hc01, hc02⟩ := cells_form' h
  have HNE0 := hide (in_ne h)
  obtain ⟨L, hL⟩ : ∃ L, m.length = L := ⟨_, rfl⟩
  have HLM := hide hL
  have HC := hide (h.below hb1)
  have HBG := hide hbig
  have HMB := hide M1
  have HRB := hide R1
  have HB := hide hb1
  obtain ⟨a0, a1, a2, a3, a4, a5, a6, a7⟩ := M1.cells
  have HUB := hide hb
  have HY := hide hy
  clear hy
  rw [hL] at HC HNE0 hc01 ⊢
  clear e1 h hs1 M1 R1 hb1 hL hbig hb
  go_enter Try.func7, Try.ntmps7
  go_wp2_with fail
  rw [HE.out]
  (with_reducible refine (rload_any _ m s _ HY.out _ HC.out HBG.out).mono ?_)
  rintro e v0_ ⟨rfl, hb_⟩
  have HMB := hide (HMB.out.below hb_)
  have HRB := hide (HRB.out.below hb_)
  have HC := hide (HC.out.below hb_)
  have HB := hide (bcall HB.out hb_)
  clear hb_
  clear a0 a1 a2 a3 a4 a5 a6 a7
  obtain ⟨a0, a1, a2, a3, a4, a5, a6, a7⟩ := HMB.out.cells
  obtain ⟨g0, g1, g2, g3, g4, g5, g6, g7⟩ := HMB.out.unfs
  obtain ⟨z0, z1, z2, z3, z4, z5, z6, z7⟩ := HRB.out.cells
  obtain ⟨f0, f1, f2, f3, f4, f5, f6, f7⟩ := HRB.out.unfs
  go_wp2
  go_region
  all_goals
    go_wp2
    refine bodyPost_ret (v := .tuple #[.slice A0 L c0, mvv 1 1 s c y t x 0]) (by simp [results, Try.results7, go_sem, z0, z1, z2, z3, z4, z5, z6, z7]) rfl ?_
    refine rend_fin (w2 := v0_) HC.out HLM.out ⟨hc01, hc02⟩ (fun h0 y_ hy_ => by have := HNE0.out h0 y_ hy_; omega) (.inl rfl) ?_ ?_ ?_
    · intro y_ hy_
      have h' : ¬ w.heap.size = y_ := fun e => hy_ e.symm
      first | rfl | (simp only [World.setCell, Array.getElem?_modify]; simp [h'])
    · simp [World.setCell]
    · repeat (first | exact HB.out | refine below_cell ?_ _ _)
set_option maxRecDepth 100000 in
set_option maxHeartbeats 4000000 in
theorem rpop_0y (s c b t x : Int) (v : Value) (m : List Int) (w : World) (h : Cells w v m) (hbig : m.length * 8 ≤ 140737488351232) (hb : U b) (y n : Int) (hy : loadF m s = y) (hU : U y) (hn : nodeF y = n) (hq : n = 0) :
    Calls Try.prog 7 #[v, mvv 2 0 s c b t x 0] w (REnd v w m ⟨2, 1, s, c, y, t, x, 2⟩) := by
  obtain ⟨w1, e1, hb1, hs1, M1, R1⟩ := rbox_two w 2 0 s c b t x 0
  have HE := hide e1
  obtain ⟨A0, c0, rfl, hc01, hc02⟩ := cells_form' h
  have HNE0 := hide (in_ne h)
  obtain ⟨L, hL⟩ : ∃ L, m.length = L := ⟨_, rfl⟩
  have HLM := hide hL
  have HC := hide (h.below hb1)
  have HBG := hide hbig
  have HMB := hide M1
  have HRB := hide R1
  have HB := hide hb1
  obtain ⟨a0, a1, a2, a3, a4, a5, a6, a7⟩ := M1.cells
  have HUB := hide hb
  have HY := hide hy
  have HUY := hide hU
  have HN := hide hn
  have qn : (n == 0) = true := by rw [beq_iff_eq]; exact hq
  clear hy hU hn hq
  rw [hL] at HC HNE0 hc01 ⊢
  clear e1 h hs1 M1 R1 hb1 hL hbig hb
  go_enter Try.func7, Try.ntmps7
  go_wp2_with fail
  rw [HE.out]
  (with_reducible refine (rload_any _ m s _ HY.out _ HC.out HBG.out).mono ?_)
  rintro e v0_ ⟨rfl, hb_⟩
  have HMB := hide (HMB.out.below hb_)
  have HRB := hide (HRB.out.below hb_)
  have HC := hide (HC.out.below hb_)
  have HB := hide (bcall HB.out hb_)
  clear hb_
  clear a0 a1 a2 a3 a4 a5 a6 a7
  obtain ⟨a0, a1, a2, a3, a4, a5, a6, a7⟩ := HMB.out.cells
  obtain ⟨g0, g1, g2, g3, g4, g5, g6, g7⟩ := HMB.out.unfs
  obtain ⟨z0, z1, z2, z3, z4, z5, z6, z7⟩ := HRB.out.cells
  obtain ⟨f0, f1, f2, f3, f4, f5, f6, f7⟩ := HRB.out.unfs
  go_wp2_with fail
  (with_reducible refine (rNode_same y n HUY.out HN.out _).mono ?_)
  rintro e _ ⟨rfl, rfl⟩
  go_wp2
  go_region
  all_goals
    go_wp2
    refine bodyPost_ret (v := .tuple #[.slice A0 L c0, mvv 2 1 s c y t x 2]) (by simp [results, Try.results7, go_sem, z0, z1, z2, z3, z4, z5, z6, z7]) rfl ?_
    refine rend_fin (w2 := v0_) HC.out HLM.out ⟨hc01, hc02⟩ (fun h0 y_ hy_ => by have := HNE0.out h0 y_ hy_; omega) (.inl rfl) ?_ ?_ ?_
    · intro y_ hy_
      have h' : ¬ w.heap.size = y_ := fun e => hy_ e.symm
      first | rfl | (simp only [World.setCell, Array.getElem?_modify]; simp [h'])
    · simp [World.setCell]
    · repeat (first | exact HB.out | refine below_cell ?_ _ _)
set_option maxRecDepth 100000 in
set_option maxHeartbeats 4000000 in
theorem rpop_0n (s c b t x : Int) (v : Value) (m : List Int) (w : World) (h : Cells w v m) (hbig : m.length * 8 ≤ 140737488351232) (hb : U b) (y n : Int) (hy : loadF m s = y) (hU : U y) (hn : nodeF y = n) (hq : n ≠ 0) :
    Calls Try.prog 7 #[v, mvv 2 0 s c b t x 0] w (REnd v w m ⟨2, 1, s, c, y, t, x, 0⟩) := by
  obtain ⟨w1, e1, hb1, hs1, M1, R1⟩ := rbox_two w 2 0 s c b t x 0
  have HE := hide e1
  obtain ⟨A0, c0, rfl, hc01, hc02⟩ := cells_form' h
  have HNE0 := hide (in_ne h)
  obtain ⟨L, hL⟩ : ∃ L, m.length = L := ⟨_, rfl⟩
  have HLM := hide hL
  have HC := hide (h.below hb1)
  have HBG := hide hbig
  have HMB := hide M1
  have HRB := hide R1
  have HB := hide hb1
  obtain ⟨a0, a1, a2, a3, a4, a5, a6, a7⟩ := M1.cells
  have HUB := hide hb
  have HY := hide hy
  have HUY := hide hU
  have HN := hide hn
  have qn : (n == 0) = false := by rw [beq_eq_false_iff_ne]; exact hq
  clear hy hU hn hq
  rw [hL] at HC HNE0 hc01 ⊢
  clear e1 h hs1 M1 R1 hb1 hL hbig hb
  go_enter Try.func7, Try.ntmps7
  go_wp2_with fail
  rw [HE.out]
  (with_reducible refine (rload_any _ m s _ HY.out _ HC.out HBG.out).mono ?_)
  rintro e v0_ ⟨rfl, hb_⟩
  have HMB := hide (HMB.out.below hb_)
  have HRB := hide (HRB.out.below hb_)
  have HC := hide (HC.out.below hb_)
  have HB := hide (bcall HB.out hb_)
  clear hb_
  clear a0 a1 a2 a3 a4 a5 a6 a7
  obtain ⟨a0, a1, a2, a3, a4, a5, a6, a7⟩ := HMB.out.cells
  obtain ⟨g0, g1, g2, g3, g4, g5, g6, g7⟩ := HMB.out.unfs
  obtain ⟨z0, z1, z2, z3, z4, z5, z6, z7⟩ := HRB.out.cells
  obtain ⟨f0, f1, f2, f3, f4, f5, f6, f7⟩ := HRB.out.unfs
  go_wp2_with fail
  (with_reducible refine (rNode_same y n HUY.out HN.out _).mono ?_)
  rintro e _ ⟨rfl, rfl⟩
  go_wp2
  go_region
  all_goals
    go_wp2
    refine bodyPost_ret (v := .tuple #[.slice A0 L c0, mvv 2 1 s c y t x 0]) (by simp [results, Try.results7, go_sem, z0, z1, z2, z3, z4, z5, z6, z7]) rfl ?_
    refine rend_fin (w2 := v0_) HC.out HLM.out ⟨hc01, hc02⟩ (fun h0 y_ hy_ => by have := HNE0.out h0 y_ hy_; omega) (.inl rfl) ?_ ?_ ?_
    · intro y_ hy_
      have h' : ¬ w.heap.size = y_ := fun e => hy_ e.symm
      first | rfl | (simp only [World.setCell, Array.getElem?_modify]; simp [h'])
    · simp [World.setCell]
    · repeat (first | exact HB.out | refine below_cell ?_ _ _)
set_option maxRecDepth 100000 in
set_option maxHeartbeats 4000000 in
theorem rpush_2y (s c b t x : Int) (v : Value) (m : List Int) (w : World) (h : Cells w v m) (hbig : m.length * 8 ≤ 140737488351232) (hb : U b) (z : Int) (hz : packF (verF b + 1) t = z) (r : List Int) (hr : swapF m s b z = r) (hfl : swapsF m s b z = true) :
    Calls Try.prog 7 #[v, mvv 1 2 s c b t x 0] w (REnd v w r ⟨1, 3, s, c, b, t, x, 1⟩) := by
  obtain ⟨w1, e1, hb1, hs1, M1, R1⟩ := rbox_two w 1 2 s c b t x 0
  have HE := hide e1
  obtain ⟨A0, c0, rfl, hc01, hc02⟩ := cells_form' h
  have HNE0 := hide (in_ne h)
  obtain ⟨L, hL⟩ : ∃ L, m.length = L := ⟨_, rfl⟩
  have HLM := hide hL
  have HC := hide (h.below hb1)
  have HBG := hide hbig
  have HMB := hide M1
  have HRB := hide R1
  have HB := hide hb1
  obtain ⟨a0, a1, a2, a3, a4, a5, a6, a7⟩ := M1.cells
  have HUB := hide hb
  have HZ := hide hz
  have HR := hide hr
  have HLR := hide (show r.length = L by rw [← hr]; exact (mF_len _ _).trans hL)
  have HFL := hide hfl
  clear hz hr hfl
  rw [hL] at HC HNE0 hc01 ⊢
  clear e1 h hs1 M1 R1 hb1 hL hbig hb
  go_enter Try.func7, Try.ntmps7
  go_wp2_with fail
  rw [HE.out]
  (with_reducible refine (rswap_any 1 2 s c b t x 0 t _ m z HZ.out r HR.out true HFL.out L HLR.out _ HC.out HBG.out).mono ?_)
  rintro e v0_ ⟨v', rfl, hP⟩
  obtain ⟨A1, c1, rfl, ⟨hcc1, hcc2⟩, hCN, hnew, hb_⟩ := hP
  have HCN := hide hCN
  have HNEN := hide (put_ne HNE0.out hnew HRB.out.lt)
  have HNW := hide (put_new hnew HRB.out.lt)
  clear hCN hnew
  have HMB := hide (HMB.out.below hb_)
  have HRB := hide (HRB.out.below hb_)
  have HC := hide (HC.out.below hb_)
  have HB := hide (bcall HB.out hb_)
  clear hb_
  clear a0 a1 a2 a3 a4 a5 a6 a7
  obtain ⟨a0, a1, a2, a3, a4, a5, a6, a7⟩ := HMB.out.cells
  obtain ⟨g0, g1, g2, g3, g4, g5, g6, g7⟩ := HMB.out.unfs
  obtain ⟨z0, z1, z2, z3, z4, z5, z6, z7⟩ := HRB.out.cells
  obtain ⟨f0, f1, f2, f3, f4, f5, f6, f7⟩ := HRB.out.unfs
  go_wp2
  go_region
  all_goals
    go_wp2
    refine bodyPost_ret (v := .tuple #[.slice A1 L c1, mvv 1 3 s c b t x 1]) (by simp [results, Try.results7, go_sem, z0, z1, z2, z3, z4, z5, z6, z7]) rfl ?_
    refine rend_fin (w2 := v0_) HCN.out HLR.out ⟨hcc1, hcc2⟩ HNEN.out HNW.out ?_ ?_ ?_
    · intro y_ hy_
      have h' : ¬ w.heap.size = y_ := fun e => hy_ e.symm
      first | rfl | (simp only [World.setCell, Array.getElem?_modify]; simp [h'])
    · simp [World.setCell]
    · repeat (first | exact HB.out | refine below_cell ?_ _ _)
set_option maxRecDepth 100000 in
set_option maxHeartbeats 4000000 in
theorem rpush_2n (s c b t x : Int) (v : Value) (m : List Int) (w : World) (h : Cells w v m) (hbig : m.length * 8 ≤ 140737488351232) (hb : U b) (z : Int) (hz : packF (verF b + 1) t = z) (r : List Int) (hr : swapF m s b z = r) (hfl : swapsF m s b z = false) :
    Calls Try.prog 7 #[v, mvv 1 2 s c b t x 0] w (REnd v w r ⟨1, 0, s, c, b, t, x, 0⟩) := by
  obtain ⟨w1, e1, hb1, hs1, M1, R1⟩ := rbox_two w 1 2 s c b t x 0
  have HE := hide e1
  obtain ⟨A0, c0, rfl, hc01, hc02⟩ := cells_form' h
  have HNE0 := hide (in_ne h)
  obtain ⟨L, hL⟩ : ∃ L, m.length = L := ⟨_, rfl⟩
  have HLM := hide hL
  have HC := hide (h.below hb1)
  have HBG := hide hbig
  have HMB := hide M1
  have HRB := hide R1
  have HB := hide hb1
  obtain ⟨a0, a1, a2, a3, a4, a5, a6, a7⟩ := M1.cells
  have HUB := hide hb
  have HZ := hide hz
  have HR := hide hr
  have HLR := hide (show r.length = L by rw [← hr]; exact (mF_len _ _).trans hL)
  have HFL := hide hfl
  clear hz hr hfl
  rw [hL] at HC HNE0 hc01 ⊢
  clear e1 h hs1 M1 R1 hb1 hL hbig hb
  go_enter Try.func7, Try.ntmps7
  go_wp2_with fail
  rw [HE.out]
  (with_reducible refine (rswap_any 1 2 s c b t x 0 t _ m z HZ.out r HR.out false HFL.out L HLR.out _ HC.out HBG.out).mono ?_)
  rintro e v0_ ⟨v', rfl, hP⟩
  obtain ⟨A1, c1, rfl, ⟨hcc1, hcc2⟩, hCN, hnew, hb_⟩ := hP
  have HCN := hide hCN
  have HNEN := hide (put_ne HNE0.out hnew HRB.out.lt)
  have HNW := hide (put_new hnew HRB.out.lt)
  clear hCN hnew
  have HMB := hide (HMB.out.below hb_)
  have HRB := hide (HRB.out.below hb_)
  have HC := hide (HC.out.below hb_)
  have HB := hide (bcall HB.out hb_)
  clear hb_
  clear a0 a1 a2 a3 a4 a5 a6 a7
  obtain ⟨a0, a1, a2, a3, a4, a5, a6, a7⟩ := HMB.out.cells
  obtain ⟨g0, g1, g2, g3, g4, g5, g6, g7⟩ := HMB.out.unfs
  obtain ⟨z0, z1, z2, z3, z4, z5, z6, z7⟩ := HRB.out.cells
  obtain ⟨f0, f1, f2, f3, f4, f5, f6, f7⟩ := HRB.out.unfs
  go_wp2
  go_region
  all_goals
    go_wp2
    refine bodyPost_ret (v := .tuple #[.slice A1 L c1, mvv 1 0 s c b t x 0]) (by simp [results, Try.results7, go_sem, z0, z1, z2, z3, z4, z5, z6, z7]) rfl ?_
    refine rend_fin (w2 := v0_) HCN.out HLR.out ⟨hcc1, hcc2⟩ HNEN.out HNW.out ?_ ?_ ?_
    · intro y_ hy_
      have h' : ¬ w.heap.size = y_ := fun e => hy_ e.symm
      first | rfl | (simp only [World.setCell, Array.getElem?_modify]; simp [h'])
    · simp [World.setCell]
    · repeat (first | exact HB.out | refine below_cell ?_ _ _)
set_option maxRecDepth 100000 in
set_option maxHeartbeats 4000000 in
theorem rpop_2y (s c b t x : Int) (v : Value) (m : List Int) (w : World) (h : Cells w v m) (hbig : m.length * 8 ≤ 140737488351232) (hb : U b) (z : Int) (hz : packF (verF b + 1) x = z) (r : List Int) (hr : swapF m s b z = r) (hfl : swapsF m s b z = true) (n : Int) (hn : nodeF b = n) :
    Calls Try.prog 7 #[v, mvv 2 2 s c b t x 0] w (REnd v w r ⟨2, 3, s, c, b, n, x, 1⟩) := by
  obtain ⟨w1, e1, hb1, hs1, M1, R1⟩ := rbox_two w 2 2 s c b t x 0
  have HE := hide e1
  obtain ⟨A0, c0, rfl, hc01, hc02⟩ := cells_form' h
  have HNE0 := hide (in_ne h)
  obtain ⟨L, hL⟩ : ∃ L, m.length = L := ⟨_, rfl⟩
  have HLM := hide hL
  have HC := hide (h.below hb1)
  have HBG := hide hbig
  have HMB := hide M1
  have HRB := hide R1
  have HB := hide hb1
  obtain ⟨a0, a1, a2, a3, a4, a5, a6, a7⟩ := M1.cells
  have HUB := hide hb
  have HZ := hide hz
  have HR := hide hr
  have HLR := hide (show r.length = L by rw [← hr]; exact (mF_len _ _).trans hL)
  have HFL := hide hfl
  have HN := hide hn
  clear hn
  clear hz hr hfl
  rw [hL] at HC HNE0 hc01 ⊢
  clear e1 h hs1 M1 R1 hb1 hL hbig hb
  go_enter Try.func7, Try.ntmps7
  go_wp2_with fail
  rw [HE.out]
  (with_reducible refine (rswap_any 2 2 s c b t x 0 x _ m z HZ.out r HR.out true HFL.out L HLR.out _ HC.out HBG.out).mono ?_)
  rintro e v0_ ⟨v', rfl, hP⟩
  obtain ⟨A1, c1, rfl, ⟨hcc1, hcc2⟩, hCN, hnew, hb_⟩ := hP
  have HCN := hide hCN
  have HNEN := hide (put_ne HNE0.out hnew HRB.out.lt)
  have HNW := hide (put_new hnew HRB.out.lt)
  clear hCN hnew
  have HMB := hide (HMB.out.below hb_)
  have HRB := hide (HRB.out.below hb_)
  have HC := hide (HC.out.below hb_)
  have HB := hide (bcall HB.out hb_)
  clear hb_
  clear a0 a1 a2 a3 a4 a5 a6 a7
  obtain ⟨a0, a1, a2, a3, a4, a5, a6, a7⟩ := HMB.out.cells
  obtain ⟨g0, g1, g2, g3, g4, g5, g6, g7⟩ := HMB.out.unfs
  obtain ⟨z0, z1, z2, z3, z4, z5, z6, z7⟩ := HRB.out.cells
  obtain ⟨f0, f1, f2, f3, f4, f5, f6, f7⟩ := HRB.out.unfs
  go_wp2_with fail
  (with_reducible refine (rNode_same b n HUB.out HN.out _).mono ?_)
  rintro e _ ⟨rfl, rfl⟩
  go_wp2
  go_region
  all_goals
    go_wp2
    refine bodyPost_ret (v := .tuple #[.slice A1 L c1, mvv 2 3 s c b n x 1]) (by simp [results, Try.results7, go_sem, z0, z1, z2, z3, z4, z5, z6, z7]) rfl ?_
    refine rend_fin (w2 := v0_) HCN.out HLR.out ⟨hcc1, hcc2⟩ HNEN.out HNW.out ?_ ?_ ?_
    · intro y_ hy_
      have h' : ¬ w.heap.size = y_ := fun e => hy_ e.symm
      first | rfl | (simp only [World.setCell, Array.getElem?_modify]; simp [h'])
    · simp [World.setCell]
    · repeat (first | exact HB.out | refine below_cell ?_ _ _)
set_option maxRecDepth 100000 in
set_option maxHeartbeats 4000000 in
theorem rpop_2n (s c b t x : Int) (v : Value) (m : List Int) (w : World) (h : Cells w v m) (hbig : m.length * 8 ≤ 140737488351232) (hb : U b) (z : Int) (hz : packF (verF b + 1) x = z) (r : List Int) (hr : swapF m s b z = r) (hfl : swapsF m s b z = false) :
    Calls Try.prog 7 #[v, mvv 2 2 s c b t x 0] w (REnd v w r ⟨2, 0, s, c, b, t, x, 0⟩) := by
  obtain ⟨w1, e1, hb1, hs1, M1, R1⟩ := rbox_two w 2 2 s c b t x 0
  have HE := hide e1
  obtain ⟨A0, c0, rfl, hc01, hc02⟩ := cells_form' h
  have HNE0 := hide (in_ne h)
  obtain ⟨L, hL⟩ : ∃ L, m.length = L := ⟨_, rfl⟩
  have HLM := hide hL
  have HC := hide (h.below hb1)
  have HBG := hide hbig
  have HMB := hide M1
  have HRB := hide R1
  have HB := hide hb1
  obtain ⟨a0, a1, a2, a3, a4, a5, a6, a7⟩ := M1.cells
  have HUB := hide hb
  have HZ := hide hz
  have HR := hide hr
  have HLR := hide (show r.length = L by rw [← hr]; exact (mF_len _ _).trans hL)
  have HFL := hide hfl
  clear hz hr hfl
  rw [hL] at HC HNE0 hc01 ⊢
  clear e1 h hs1 M1 R1 hb1 hL hbig hb
  go_enter Try.func7, Try.ntmps7
  go_wp2_with fail
  rw [HE.out]
  (with_reducible refine (rswap_any 2 2 s c b t x 0 x _ m z HZ.out r HR.out false HFL.out L HLR.out _ HC.out HBG.out).mono ?_)
  rintro e v0_ ⟨v', rfl, hP⟩
  obtain ⟨A1, c1, rfl, ⟨hcc1, hcc2⟩, hCN, hnew, hb_⟩ := hP
  have HCN := hide hCN
  have HNEN := hide (put_ne HNE0.out hnew HRB.out.lt)
  have HNW := hide (put_new hnew HRB.out.lt)
  clear hCN hnew
  have HMB := hide (HMB.out.below hb_)
  have HRB := hide (HRB.out.below hb_)
  have HC := hide (HC.out.below hb_)
  have HB := hide (bcall HB.out hb_)
  clear hb_
  clear a0 a1 a2 a3 a4 a5 a6 a7
  obtain ⟨a0, a1, a2, a3, a4, a5, a6, a7⟩ := HMB.out.cells
  obtain ⟨g0, g1, g2, g3, g4, g5, g6, g7⟩ := HMB.out.unfs
  obtain ⟨z0, z1, z2, z3, z4, z5, z6, z7⟩ := HRB.out.cells
  obtain ⟨f0, f1, f2, f3, f4, f5, f6, f7⟩ := HRB.out.unfs
  go_wp2
  go_region
  all_goals
    go_wp2
    refine bodyPost_ret (v := .tuple #[.slice A1 L c1, mvv 2 0 s c b t x 0]) (by simp [results, Try.results7, go_sem, z0, z1, z2, z3, z4, z5, z6, z7]) rfl ?_
    refine rend_fin (w2 := v0_) HCN.out HLR.out ⟨hcc1, hcc2⟩ HNEN.out HNW.out ?_ ?_ ?_
    · intro y_ hy_
      have h' : ¬ w.heap.size = y_ := fun e => hy_ e.symm
      first | rfl | (simp only [World.setCell, Array.getElem?_modify]; simp [h'])
    · simp [World.setCell]
    · repeat (first | exact HB.out | refine below_cell ?_ _ _)
set_option maxRecDepth 100000 in
set_option maxHeartbeats 4000000 in
theorem rpush_1 (s c b t x : Int) (v : Value) (m : List Int) (w : World) (h : Cells w v m) (hbig : m.length * 8 ≤ 140737488351232) (hb : U b) (n q : Int) (hn : nodeF b = n) (hq : s64 (c + t) = q) (r : List Int) (hr : storeF m q n = r) :
    Calls Try.prog 7 #[v, mvv 1 1 s c b t x 0] w (REnd v w r ⟨1, 2, s, c, b, t, x, 0⟩) := by
  obtain ⟨w1, e1, hb1, hs1, M1, R1⟩ := rbox_two w 1 1 s c b t x 0
  have HE := hide e1
  obtain ⟨A0, c0, rfl, hc01, hc02⟩ := cells_form' h
  have HNE0 := hide (in_ne h)
  obtain ⟨L, hL⟩ : ∃ L, m.length = L := ⟨_, rfl⟩
  have HLM := hide hL
  have HC := hide (h.below hb1)
  have HBG := hide hbig
  have HMB := hide M1
  have HRB := hide R1
  have HB := hide hb1
  obtain ⟨a0, a1, a2, a3, a4, a5, a6, a7⟩ := M1.cells
  have HUB := hide hb
  have HN := hide hn
  have HR := hide hr
  have HLR := hide (show r.length = L by rw [← hr]; exact (mF_len _ _).trans hL)
  have e1_ : IntKind.i64.wrap (c + t) = q := by rw [wrap_s]; exact hq
  have e2_ : wrap64 (c + t) = q := by rw [wrap64_s]; exact hq
  have rn : 0 ≤ n ∧ n < 4294967296 := by rw [← hn]; unfold nodeF; omega
  obtain ⟨rn0, rn1⟩ := rn
  have e3_ : IntKind.u64.wrap n = n := by rw [wrap_w]; unfold w64; omega
  clear hn hr hq
  rw [hL] at HC HNE0 hc01 ⊢
  clear e1 h hs1 M1 R1 hb1 hL hbig hb
  go_enter Try.func7, Try.ntmps7
  go_upto_region 20 with (fail)
  rw [HE.out]
  have HC := hide (cells_drew HC.out)
  have HMB : Hid (RMb w1.drew _ _) := hide ⟨HMB.out.blk⟩
  have HRB : Hid (RMb w1.drew _ _) := hide ⟨HRB.out.blk⟩
  have HB := hide HB.out.drew
  clear a0 a1 a2 a3 a4 a5 a6 a7
  refine wp_region_held_drew (S := fun w' => w'.cell? ⟨w.heap.size, 3, none⟩ = some (.int .i64 c) ∧ w'.cell? ⟨w.heap.size, 5, none⟩ = some (.int .i64 t) ∧ w'.cell? ⟨w.heap.size, 4, none⟩ = some (.int .u64 b)) (by kernel_rfl) ?_ (fun hHeld => ?_)
  · exact ⟨HMB.out.cells.2.2.2.1, HMB.out.cells.2.2.2.2.2.1, HMB.out.cells.2.2.2.2.1⟩
  refine wpAnyH_take (i := 0) (oi := { dst := some 89, op := Op.move (Operand.tmp 0), type := 22, pos := "ref.go:59", after := #[], guard := none }) (v := ?_) rfl (by kernel_rfl) (by kernel_rfl) (by kernel_rfl) (fun _ _ _ h => h) (Or.inl ⟨by rfl, ?_⟩) (by assumption) ?_
  rotate_left
  · intro w_ hSw; (try dsimp only at hSw); go_simp; (try with_reducible rfl)
  (try simp only [Act.put, List.setIfInBounds_toArray, List.set_cons_zero, List.set_cons_succ])
  refine wpAnyH_take (i := 1) (oi := { dst := some 90, op := Op.fieldAddr 31 (Operand.tmp 3) 3, type := 0, pos := "ref.go:59", after := #[], guard := none }) (v := ?_) rfl (by kernel_rfl) (by kernel_rfl) (by kernel_rfl) (fun _ _ _ h => h) (Or.inl ⟨by rfl, ?_⟩) (by assumption) ?_
  rotate_left
  · intro w_ hSw; (try dsimp only at hSw); go_simp; (try with_reducible rfl)
  (try simp only [Act.put, List.setIfInBounds_toArray, List.set_cons_zero, List.set_cons_succ])
  refine wpAnyH_take (i := 2) (oi := { dst := some 91, op := Op.load 3 (Operand.tmp 90), type := 3, pos := "ref.go:59", after := #[{ on := 1, ground := Ground.data }], guard := none }) (v := ?_) rfl (by kernel_rfl) (by kernel_rfl) (by kernel_rfl) (fun _ _ _ h => h) (Or.inl ⟨by rfl, ?_⟩) (by assumption) ?_
  rotate_left
  · intro w_ hSw; (try dsimp only at hSw); go_simp; (try with_reducible rfl)
  (try simp only [Act.put, List.setIfInBounds_toArray, List.set_cons_zero, List.set_cons_succ])
  refine wpAnyH_take (i := 3) (oi := { dst := some 92, op := Op.fieldAddr 31 (Operand.tmp 3) 5, type := 0, pos := "ref.go:59", after := #[], guard := none }) (v := ?_) rfl (by kernel_rfl) (by kernel_rfl) (by kernel_rfl) (fun _ _ _ h => h) (Or.inl ⟨by rfl, ?_⟩) (by assumption) ?_
  rotate_left
  · intro w_ hSw; (try dsimp only at hSw); go_simp; (try with_reducible rfl)
  (try simp only [Act.put, List.setIfInBounds_toArray, List.set_cons_zero, List.set_cons_succ])
  refine wpAnyH_take (i := 4) (oi := { dst := some 93, op := Op.load 3 (Operand.tmp 92), type := 3, pos := "ref.go:59", after := #[{ on := 3, ground := Ground.data }], guard := none }) (v := ?_) rfl (by kernel_rfl) (by kernel_rfl) (by kernel_rfl) (fun _ _ _ h => h) (Or.inl ⟨by rfl, ?_⟩) (by assumption) ?_
  rotate_left
  · intro w_ hSw; (try dsimp only at hSw); go_simp; (try with_reducible rfl)
  (try simp only [Act.put, List.setIfInBounds_toArray, List.set_cons_zero, List.set_cons_succ])
  refine wpAnyH_take (i := 5) (oi := { dst := some 94, op := Op.binOp BinOp.add 3 (Operand.tmp 91) (Operand.tmp 93) 3, type := 3, pos := "ref.go:59", after := #[{ on := 2, ground := Ground.data }, { on := 4, ground := Ground.data }], guard := none }) (v := ?_) rfl (by kernel_rfl) (by kernel_rfl) (by kernel_rfl) (fun _ _ _ h => h) (Or.inl ⟨by rfl, ?_⟩) (by assumption) ?_
  rotate_left
  · intro w_ hSw; (try dsimp only at hSw); go_simp; (try with_reducible rfl)
  (try simp only [Act.put, List.setIfInBounds_toArray, List.set_cons_zero, List.set_cons_succ])
  refine wpAnyH_take (i := 6) (oi := { dst := some 95, op := Op.fieldAddr 31 (Operand.tmp 3) 4, type := 0, pos := "ref.go:59", after := #[], guard := none }) (v := ?_) rfl (by kernel_rfl) (by kernel_rfl) (by kernel_rfl) (fun _ _ _ h => h) (Or.inl ⟨by rfl, ?_⟩) (by assumption) ?_
  rotate_left
  · intro w_ hSw; (try dsimp only at hSw); go_simp; (try with_reducible rfl)
  (try simp only [Act.put, List.setIfInBounds_toArray, List.set_cons_zero, List.set_cons_succ])
  refine wpAnyH_take (i := 7) (oi := { dst := some 96, op := Op.load 24 (Operand.tmp 95), type := 24, pos := "ref.go:59", after := #[{ on := 6, ground := Ground.data }], guard := none }) (v := ?_) rfl (by kernel_rfl) (by kernel_rfl) (by kernel_rfl) (fun _ _ _ h => h) (Or.inl ⟨by rfl, ?_⟩) (by assumption) ?_
  rotate_left
  · intro w_ hSw; (try dsimp only at hSw); go_simp; (try with_reducible rfl)
  (try simp only [Act.put, List.setIfInBounds_toArray, List.set_cons_zero, List.set_cons_succ])
  refine wpAnyH_ready (rs := [8]) (by kernel_rfl) (by simp) ?_
  refine AllReadyH.cons rfl (fun K hK => ?_) AllReadyH.nil
  go_simp
  go_at_call 18
  (with_reducible refine (rNode_same b n HUB.out HN.out _).mono ?_)
  rintro e _ ⟨rfl, rfl⟩
  (try go_simp)
  refine hK.out _ _ ⟨HMB.out.cells.2.2.2.1, HMB.out.cells.2.2.2.2.2.1, HMB.out.cells.2.2.2.2.1⟩ (fun hHeld => ?_)
  (try simp only [Act.put, List.setIfInBounds_toArray, List.set_cons_zero, List.set_cons_succ])
  refine wpAnyH_take (i := 9) (oi := { dst := some 98, op := Op.convert 3 24 (Operand.tmp 97), type := 24, pos := "ref.go:59", after := #[{ on := 8, ground := Ground.data }], guard := none }) (v := ?_) rfl (by kernel_rfl) (by kernel_rfl) (by kernel_rfl) (fun _ _ _ h => h) (Or.inl ⟨by rfl, ?_⟩) (by assumption) ?_
  rotate_left
  · intro w_ hSw; (try dsimp only at hSw); go_simp; (try with_reducible rfl)
  (try simp only [Act.put, List.setIfInBounds_toArray, List.set_cons_zero, List.set_cons_succ])
  refine wpAnyH_ready (rs := [10]) (by kernel_rfl) (by simp) ?_
  refine AllReadyH.cons rfl (fun K hK => ?_) AllReadyH.nil
  go_simp
  go_at_call 28
  (with_reducible refine (rstore_any _ m q n r HR.out L HLR.out _ HC.out HBG.out).mono ?_)
  rintro e v0_ ⟨v', rfl, hP⟩
  obtain ⟨A1, c1, rfl, ⟨hcc1, hcc2⟩, hCN, hnew, hb_⟩ := hP
  have HCN := hide hCN
  have HNEN := hide (put_ne HNE0.out hnew HRB.out.lt)
  have HNW := hide (put_new hnew HRB.out.lt)
  clear hCN hnew
  have HMB := hide (HMB.out.below hb_)
  have HRB := hide (HRB.out.below hb_)
  have HC := hide (HC.out.below hb_)
  have HB := hide (bcall HB.out hb_)
  clear hb_
  (try go_simp)
  refine hK.out _ _ ⟨HMB.out.cells.2.2.2.1, HMB.out.cells.2.2.2.2.2.1, HMB.out.cells.2.2.2.2.1⟩ (fun hHeld => ?_)
  (try simp only [Act.put, List.setIfInBounds_toArray, List.set_cons_zero, List.set_cons_succ])
  refine wpAnyH_take (i := 11) (oi := { dst := some 0, op := Op.assign (Operand.tmp 99), type := 22, pos := "ref.go:59", after := #[{ on := 10, ground := Ground.data }, { on := 10, ground := Ground.chain }, { on := 0, ground := Ground.phase }, { on := 1, ground := Ground.phase }, { on := 2, ground := Ground.phase }, { on := 3, ground := Ground.phase }, { on := 4, ground := Ground.phase }, { on := 5, ground := Ground.phase }, { on := 6, ground := Ground.phase }, { on := 7, ground := Ground.phase }, { on := 8, ground := Ground.phase }, { on := 9, ground := Ground.phase }, { on := 10, ground := Ground.phase }], guard := none }) (v := ?_) rfl (by kernel_rfl) (by kernel_rfl) (by kernel_rfl) (fun _ _ _ h => h) (Or.inl ⟨by rfl, ?_⟩) (by assumption) ?_
  rotate_left
  · intro w_ hSw; (try dsimp only at hSw); go_simp; (try with_reducible rfl)
  (try simp only [Act.put, List.setIfInBounds_toArray, List.set_cons_zero])
  refine wpAnyH_done (by kernel_rfl) ?_ _
  obtain ⟨a0, a1, a2, a3, a4, a5, a6, a7⟩ := HMB.out.cells
  obtain ⟨g0, g1, g2, g3, g4, g5, g6, g7⟩ := HMB.out.unfs
  obtain ⟨z0, z1, z2, z3, z4, z5, z6, z7⟩ := HRB.out.cells
  obtain ⟨f0, f1, f2, f3, f4, f5, f6, f7⟩ := HRB.out.unfs
  go_wp2
  go_region
  all_goals
    go_wp2
    refine bodyPost_ret (v := .tuple #[.slice A1 L c1, mvv 1 2 s c b t x 0]) (by simp [results, Try.results7, go_sem, z0, z1, z2, z3, z4, z5, z6, z7]) rfl ?_
    refine rend_fin (w2 := v0_) HCN.out HLR.out ⟨hcc1, hcc2⟩ HNEN.out HNW.out ?_ ?_ ?_
    · intro y_ hy_
      have h' : ¬ w.heap.size = y_ := fun e => hy_ e.symm
      first | rfl | (simp only [World.setCell, Array.getElem?_modify]; simp [h'])
    · simp [World.setCell]
    · repeat (first | exact HB.out | refine below_cell ?_ _ _)
set_option maxRecDepth 100000 in
set_option maxHeartbeats 4000000 in
theorem rpop_1 (s c b t x : Int) (v : Value) (m : List Int) (w : World) (h : Cells w v m) (hbig : m.length * 8 ≤ 140737488351232) (hb : U b) (n q y y1 : Int) (hn : nodeF b = n) (hq : s64 (c + n) = q) (hy : loadF m q = y) (hx : s64 y = y1) :
    Calls Try.prog 7 #[v, mvv 2 1 s c b t x 0] w (REnd v w m ⟨2, 2, s, c, b, t, y1, 0⟩) := by
  obtain ⟨w1, e1, hb1, hs1, M1, R1⟩ := rbox_two w 2 1 s c b t x 0
  have HE := hide e1
  obtain ⟨A0, c0, rfl, hc01, hc02⟩ := cells_form' h
  have HNE0 := hide (in_ne h)
  obtain ⟨L, hL⟩ : ∃ L, m.length = L := ⟨_, rfl⟩
  have HLM := hide hL
  have HC := hide (h.below hb1)
  have HBG := hide hbig
  have HMB := hide M1
  have HRB := hide R1
  have HB := hide hb1
  obtain ⟨a0, a1, a2, a3, a4, a5, a6, a7⟩ := M1.cells
  have HUB := hide hb
  have HN := hide hn
  have HY := hide hy
  have rn : 0 ≤ n ∧ n < 4294967296 := by rw [← hn]; unfold nodeF; omega
  have e1_ : IntKind.i64.wrap (c + n) = q := by rw [wrap_s]; exact hq
  have e2_ : wrap64 (c + n) = q := by rw [wrap64_s]; exact hq
  have e3_ : IntKind.i64.wrap y = y1 := by rw [wrap_s]; exact hx
  have e4_ : wrap64 y = y1 := by rw [wrap64_s]; exact hx
  clear hn hy hq hx
  rw [hL] at HC HNE0 hc01 ⊢
  clear e1 h hs1 M1 R1 hb1 hL hbig hb
  go_enter Try.func7, Try.ntmps7
  go_upto_region 22 with (fail)
  rw [HE.out]
  have HC := hide (cells_drew HC.out)
  have HMB : Hid (RMb w1.drew _ _) := hide ⟨HMB.out.blk⟩
  have HRB : Hid (RMb w1.drew _ _) := hide ⟨HRB.out.blk⟩
  have HB := hide HB.out.drew
  clear a0 a1 a2 a3 a4 a5 a6 a7
  refine wp_region_held_drew (S := fun w' => w'.cell? ⟨w.heap.size, 3, none⟩ = some (.int .i64 c) ∧ w'.cell? ⟨w.heap.size, 4, none⟩ = some (.int .u64 b)) (by kernel_rfl) ?_ (fun hHeld => ?_)
  · exact ⟨HMB.out.cells.2.2.2.1, HMB.out.cells.2.2.2.2.1⟩
  refine wpAnyH_take (i := 0) (oi := { dst := some 104, op := Op.move (Operand.tmp 0), type := 22, pos := "ref.go:61", after := #[], guard := none }) (v := ?_) rfl (by kernel_rfl) (by kernel_rfl) (by kernel_rfl) (fun _ _ _ h => h) (Or.inl ⟨by rfl, ?_⟩) (by assumption) ?_
  rotate_left
  · intro w_ hSw; (try dsimp only at hSw); go_simp; (try with_reducible rfl)
  (try simp only [Act.put, List.setIfInBounds_toArray, List.set_cons_zero, List.set_cons_succ])
  refine wpAnyH_take (i := 1) (oi := { dst := some 105, op := Op.fieldAddr 31 (Operand.tmp 3) 3, type := 0, pos := "ref.go:61", after := #[], guard := none }) (v := ?_) rfl (by kernel_rfl) (by kernel_rfl) (by kernel_rfl) (fun _ _ _ h => h) (Or.inl ⟨by rfl, ?_⟩) (by assumption) ?_
  rotate_left
  · intro w_ hSw; (try dsimp only at hSw); go_simp; (try with_reducible rfl)
  (try simp only [Act.put, List.setIfInBounds_toArray, List.set_cons_zero, List.set_cons_succ])
  refine wpAnyH_take (i := 2) (oi := { dst := some 106, op := Op.load 3 (Operand.tmp 105), type := 3, pos := "ref.go:61", after := #[{ on := 1, ground := Ground.data }], guard := none }) (v := ?_) rfl (by kernel_rfl) (by kernel_rfl) (by kernel_rfl) (fun _ _ _ h => h) (Or.inl ⟨by rfl, ?_⟩) (by assumption) ?_
  rotate_left
  · intro w_ hSw; (try dsimp only at hSw); go_simp; (try with_reducible rfl)
  (try simp only [Act.put, List.setIfInBounds_toArray, List.set_cons_zero, List.set_cons_succ])
  refine wpAnyH_take (i := 3) (oi := { dst := some 107, op := Op.fieldAddr 31 (Operand.tmp 3) 4, type := 0, pos := "ref.go:61", after := #[], guard := none }) (v := ?_) rfl (by kernel_rfl) (by kernel_rfl) (by kernel_rfl) (fun _ _ _ h => h) (Or.inl ⟨by rfl, ?_⟩) (by assumption) ?_
  rotate_left
  · intro w_ hSw; (try dsimp only at hSw); go_simp; (try with_reducible rfl)
  (try simp only [Act.put, List.setIfInBounds_toArray, List.set_cons_zero, List.set_cons_succ])
  refine wpAnyH_take (i := 4) (oi := { dst := some 108, op := Op.load 24 (Operand.tmp 107), type := 24, pos := "ref.go:61", after := #[{ on := 3, ground := Ground.data }], guard := none }) (v := ?_) rfl (by kernel_rfl) (by kernel_rfl) (by kernel_rfl) (fun _ _ _ h => h) (Or.inl ⟨by rfl, ?_⟩) (by assumption) ?_
  rotate_left
  · intro w_ hSw; (try dsimp only at hSw); go_simp; (try with_reducible rfl)
  (try simp only [Act.put, List.setIfInBounds_toArray, List.set_cons_zero, List.set_cons_succ])
  refine wpAnyH_ready (rs := [5]) (by kernel_rfl) (by simp) ?_
  refine AllReadyH.cons rfl (fun K hK => ?_) AllReadyH.nil
  go_simp
  go_at_call 18
  (with_reducible refine (rNode_same b n HUB.out HN.out _).mono ?_)
  rintro e _ ⟨rfl, rfl⟩
  (try go_simp)
  refine hK.out _ _ ⟨HMB.out.cells.2.2.2.1, HMB.out.cells.2.2.2.2.1⟩ (fun hHeld => ?_)
  (try simp only [Act.put, List.setIfInBounds_toArray, List.set_cons_zero, List.set_cons_succ])
  refine wpAnyH_take (i := 6) (oi := { dst := some 110, op := Op.binOp BinOp.add 3 (Operand.tmp 106) (Operand.tmp 109) 3, type := 3, pos := "ref.go:61", after := #[{ on := 2, ground := Ground.data }, { on := 5, ground := Ground.data }], guard := none }) (v := ?_) rfl (by kernel_rfl) (by kernel_rfl) (by kernel_rfl) (fun _ _ _ h => h) (Or.inl ⟨by rfl, ?_⟩) (by assumption) ?_
  rotate_left
  · intro w_ hSw; (try dsimp only at hSw); go_simp; (try with_reducible rfl)
  (try simp only [Act.put, List.setIfInBounds_toArray, List.set_cons_zero, List.set_cons_succ])
  refine wpAnyH_ready (rs := [7]) (by kernel_rfl) (by simp) ?_
  refine AllReadyH.cons rfl (fun K hK => ?_) AllReadyH.nil
  go_simp
  go_at_call 27
  (with_reducible refine (rload_any _ m q _ HY.out _ HC.out HBG.out).mono ?_)
  rintro e v0_ ⟨rfl, hb_⟩
  have HMB := hide (HMB.out.below hb_)
  have HRB := hide (HRB.out.below hb_)
  have HC := hide (HC.out.below hb_)
  have HB := hide (bcall HB.out hb_)
  clear hb_
  obtain ⟨a0, a1, a2, a3, a4, a5, a6, a7⟩ := HMB.out.cells
  obtain ⟨g0, g1, g2, g3, g4, g5, g6, g7⟩ := HMB.out.unfs
  obtain ⟨z0, z1, z2, z3, z4, z5, z6, z7⟩ := HRB.out.cells
  obtain ⟨f0, f1, f2, f3, f4, f5, f6, f7⟩ := HRB.out.unfs
  (try go_simp)
  refine hK.out _ _ ⟨HMB.out.cells.2.2.2.1, HMB.out.cells.2.2.2.2.1⟩ (fun hHeld => ?_)
  (try simp only [Act.put, List.setIfInBounds_toArray, List.set_cons_zero, List.set_cons_succ])
  refine wpAnyH_take (i := 8) (oi := { dst := some 112, op := Op.convert 24 3 (Operand.tmp 111), type := 3, pos := "ref.go:61", after := #[{ on := 7, ground := Ground.data }], guard := none }) (v := ?_) rfl (by kernel_rfl) (by kernel_rfl) (by kernel_rfl) (fun _ _ _ h => h) (Or.inl ⟨by rfl, ?_⟩) (by assumption) ?_
  rotate_left
  · intro w_ hSw; (try dsimp only at hSw); go_simp; (try with_reducible rfl)
  (try simp only [Act.put, List.setIfInBounds_toArray, List.set_cons_zero, List.set_cons_succ])
  refine wpAnyH_take (i := 9) (oi := { dst := some 113, op := Op.fieldAddr 31 (Operand.tmp 3) 6, type := 0, pos := "ref.go:61", after := #[{ on := 0, ground := Ground.phase }, { on := 1, ground := Ground.phase }, { on := 2, ground := Ground.phase }, { on := 3, ground := Ground.phase }, { on := 4, ground := Ground.phase }, { on := 5, ground := Ground.phase }, { on := 6, ground := Ground.phase }, { on := 7, ground := Ground.phase }, { on := 8, ground := Ground.phase }], guard := none }) (v := ?_) rfl (by kernel_rfl) (by kernel_rfl) (by kernel_rfl) (fun _ _ _ h => h) (Or.inl ⟨by rfl, ?_⟩) (by assumption) ?_
  rotate_left
  · intro w_ hSw; (try dsimp only at hSw); go_simp; (try with_reducible rfl)
  (try simp only [Act.put, List.setIfInBounds_toArray, List.set_cons_zero, List.set_cons_succ])
  refine wpAnyH_ready (rs := [10]) (by kernel_rfl) (by simp) ?_
  refine AllReadyH.cons rfl (fun K hK => ?_) AllReadyH.nil
  go_simp
  have HMB := hide (HMB.out.put 6 (.int .i64 y1) (d' := ⟨2, 1, s, c, b, t, y1, 0⟩) rfl)
  (try go_simp)
  refine hK.out _ _ ⟨HMB.out.cells.2.2.2.1, HMB.out.cells.2.2.2.2.1⟩ (fun hHeld => ?_)
  (try simp only [Act.put, List.setIfInBounds_toArray, List.set_cons_zero, List.set_cons_succ])
  refine wpAnyH_done (by kernel_rfl) ?_ _
  go_wp2
  go_region
  all_goals
    go_wp2
    refine bodyPost_ret (v := .tuple #[.slice A0 L c0, mvv 2 2 s c b t y1 0]) (by simp [results, Try.results7, go_sem, z0, z1, z2, z3, z4, z5, z6, z7]) rfl ?_
    refine rend_fin (w2 := v0_) HC.out HLM.out ⟨hc01, hc02⟩ (fun h0 y_ hy_ => by have := HNE0.out h0 y_ hy_; omega) (.inl rfl) ?_ ?_ ?_
    · intro y_ hy_
      have h' : ¬ w.heap.size = y_ := fun e => hy_ e.symm
      first | rfl | (simp only [World.setCell, Array.getElem?_modify]; simp [h'])
    · simp [World.setCell]
    · repeat (first | exact HB.out | refine below_cell ?_ _ _)
set_option maxRecDepth 100000 in
set_option maxHeartbeats 4000000 in
theorem rno_u (k p u : Int) (s c b t x : Int) (v : Value) (m : List Int) (w : World) (h : Cells w v m) (hbig : m.length * 8 ≤ 140737488351232) (hb : U b) (q0 : (u != 0) = true) :
    Calls Try.prog 7 #[v, mvv k p s c b t x u] w (REnd v w m ⟨k, p, s, c, b, t, x, u⟩) := by
  obtain ⟨w1, e1, hb1, hs1, M1, R1⟩ := rbox_two w k p s c b t x u
  have HE := hide e1
  obtain ⟨A0, c0, rfl, hc01, hc02⟩ := cells_form' h
  have HNE0 := hide (in_ne h)
  obtain ⟨L, hL⟩ : ∃ L, m.length = L := ⟨_, rfl⟩
  have HLM := hide hL
  have HC := hide (h.below hb1)
  have HBG := hide hbig
  have HMB := hide M1
  have HRB := hide R1
  have HB := hide hb1
  obtain ⟨a0, a1, a2, a3, a4, a5, a6, a7⟩ := M1.cells
  have HUB := hide hb
  rw [hL] at HC HNE0 hc01 ⊢
  clear e1 h hs1 M1 R1 hb1 hL hbig hb
  go_enter Try.func7, Try.ntmps7
  go_upto_region 2 with (fail)
  rw [HE.out]
  obtain ⟨g0, g1, g2, g3, g4, g5, g6, g7⟩ := HMB.out.unfs
  obtain ⟨z0, z1, z2, z3, z4, z5, z6, z7⟩ := HRB.out.cells
  obtain ⟨f0, f1, f2, f3, f4, f5, f6, f7⟩ := HRB.out.unfs
  go_region
  all_goals
    go_wp2
    refine bodyPost_ret (v := .tuple #[.slice A0 L c0, mvv k p s c b t x u]) (by simp [results, Try.results7, go_sem, z0, z1, z2, z3, z4, z5, z6, z7]) rfl ?_
    refine rend_fin (w2 := w1) HC.out HLM.out ⟨hc01, hc02⟩ (fun h0 y_ hy_ => by have := HNE0.out h0 y_ hy_; omega) (.inl rfl) ?_ ?_ ?_
    · intro y_ hy_
      have h' : ¬ w.heap.size = y_ := fun e => hy_ e.symm
      first | rfl | (simp only [World.setCell, Array.getElem?_modify]; simp [h'])
    · first | rfl | simp [World.setCell]
    · repeat (first | exact HB.out | refine below_cell ?_ _ _)
set_option maxRecDepth 100000 in
set_option maxHeartbeats 4000000 in
theorem rno_lo (k p : Int) (s c b t x : Int) (v : Value) (m : List Int) (w : World) (h : Cells w v m) (hbig : m.length * 8 ≤ 140737488351232) (hb : U b) (q1 : p < 0) :
    Calls Try.prog 7 #[v, mvv k p s c b t x 0] w (REnd v w m ⟨k, p, s, c, b, t, x, 0⟩) := by
  obtain ⟨w1, e1, hb1, hs1, M1, R1⟩ := rbox_two w k p s c b t x 0
  have HE := hide e1
  obtain ⟨A0, c0, rfl, hc01, hc02⟩ := cells_form' h
  have HNE0 := hide (in_ne h)
  obtain ⟨L, hL⟩ : ∃ L, m.length = L := ⟨_, rfl⟩
  have HLM := hide hL
  have HC := hide (h.below hb1)
  have HBG := hide hbig
  have HMB := hide M1
  have HRB := hide R1
  have HB := hide hb1
  obtain ⟨a0, a1, a2, a3, a4, a5, a6, a7⟩ := M1.cells
  have HUB := hide hb
  rw [hL] at HC HNE0 hc01 ⊢
  clear e1 h hs1 M1 R1 hb1 hL hbig hb
  go_enter Try.func7, Try.ntmps7
  go_upto_region 2 with (fail)
  rw [HE.out]
  obtain ⟨g0, g1, g2, g3, g4, g5, g6, g7⟩ := HMB.out.unfs
  obtain ⟨z0, z1, z2, z3, z4, z5, z6, z7⟩ := HRB.out.cells
  obtain ⟨f0, f1, f2, f3, f4, f5, f6, f7⟩ := HRB.out.unfs
  go_region
  all_goals
    go_wp2
    refine bodyPost_ret (v := .tuple #[.slice A0 L c0, mvv k p s c b t x 0]) (by simp [results, Try.results7, go_sem, z0, z1, z2, z3, z4, z5, z6, z7]) rfl ?_
    refine rend_fin (w2 := w1) HC.out HLM.out ⟨hc01, hc02⟩ (fun h0 y_ hy_ => by have := HNE0.out h0 y_ hy_; omega) (.inl rfl) ?_ ?_ ?_
    · intro y_ hy_
      have h' : ¬ w.heap.size = y_ := fun e => hy_ e.symm
      first | rfl | (simp only [World.setCell, Array.getElem?_modify]; simp [h'])
    · first | rfl | simp [World.setCell]
    · repeat (first | exact HB.out | refine below_cell ?_ _ _)
set_option maxRecDepth 100000 in
set_option maxHeartbeats 4000000 in
theorem rno_hi (k p : Int) (s c b t x : Int) (v : Value) (m : List Int) (w : World) (h : Cells w v m) (hbig : m.length * 8 ≤ 140737488351232) (hb : U b) (q1 : ¬ p < 0) (q2 : 2 < p) :
    Calls Try.prog 7 #[v, mvv k p s c b t x 0] w (REnd v w m ⟨k, p, s, c, b, t, x, 0⟩) := by
  obtain ⟨w1, e1, hb1, hs1, M1, R1⟩ := rbox_two w k p s c b t x 0
  have HE := hide e1
  obtain ⟨A0, c0, rfl, hc01, hc02⟩ := cells_form' h
  have HNE0 := hide (in_ne h)
  obtain ⟨L, hL⟩ : ∃ L, m.length = L := ⟨_, rfl⟩
  have HLM := hide hL
  have HC := hide (h.below hb1)
  have HBG := hide hbig
  have HMB := hide M1
  have HRB := hide R1
  have HB := hide hb1
  obtain ⟨a0, a1, a2, a3, a4, a5, a6, a7⟩ := M1.cells
  have HUB := hide hb
  rw [hL] at HC HNE0 hc01 ⊢
  clear e1 h hs1 M1 R1 hb1 hL hbig hb
  go_enter Try.func7, Try.ntmps7
  go_upto_region 2 with (fail)
  rw [HE.out]
  obtain ⟨g0, g1, g2, g3, g4, g5, g6, g7⟩ := HMB.out.unfs
  obtain ⟨z0, z1, z2, z3, z4, z5, z6, z7⟩ := HRB.out.cells
  obtain ⟨f0, f1, f2, f3, f4, f5, f6, f7⟩ := HRB.out.unfs
  go_region
  all_goals
    go_wp2
    refine bodyPost_ret (v := .tuple #[.slice A0 L c0, mvv k p s c b t x 0]) (by simp [results, Try.results7, go_sem, z0, z1, z2, z3, z4, z5, z6, z7]) rfl ?_
    refine rend_fin (w2 := w1) HC.out HLM.out ⟨hc01, hc02⟩ (fun h0 y_ hy_ => by have := HNE0.out h0 y_ hy_; omega) (.inl rfl) ?_ ?_ ?_
    · intro y_ hy_
      have h' : ¬ w.heap.size = y_ := fun e => hy_ e.symm
      first | rfl | (simp only [World.setCell, Array.getElem?_modify]; simp [h'])
    · first | rfl | simp [World.setCell]
    · repeat (first | exact HB.out | refine below_cell ?_ _ _)
set_option maxRecDepth 100000 in
set_option maxHeartbeats 4000000 in
theorem rno_k (k p : Int) (s c b t x : Int) (v : Value) (m : List Int) (w : World) (h : Cells w v m) (hbig : m.length * 8 ≤ 140737488351232) (hb : U b) (q1 : ¬ p < 0) (q2 : ¬ 2 < p) (q3 : (k != 1) = true) (q4 : (k != 2) = true) :
    Calls Try.prog 7 #[v, mvv k p s c b t x 0] w (REnd v w m ⟨k, p, s, c, b, t, x, 0⟩) := by
  obtain ⟨w1, e1, hb1, hs1, M1, R1⟩ := rbox_two w k p s c b t x 0
  have HE := hide e1
  obtain ⟨A0, c0, rfl, hc01, hc02⟩ := cells_form' h
  have HNE0 := hide (in_ne h)
  obtain ⟨L, hL⟩ : ∃ L, m.length = L := ⟨_, rfl⟩
  have HLM := hide hL
  have HC := hide (h.below hb1)
  have HBG := hide hbig
  have HMB := hide M1
  have HRB := hide R1
  have HB := hide hb1
  obtain ⟨a0, a1, a2, a3, a4, a5, a6, a7⟩ := M1.cells
  have HUB := hide hb
  rw [hL] at HC HNE0 hc01 ⊢
  clear e1 h hs1 M1 R1 hb1 hL hbig hb
  go_enter Try.func7, Try.ntmps7
  go_upto_region 2 with (fail)
  rw [HE.out]
  obtain ⟨g0, g1, g2, g3, g4, g5, g6, g7⟩ := HMB.out.unfs
  obtain ⟨z0, z1, z2, z3, z4, z5, z6, z7⟩ := HRB.out.cells
  obtain ⟨f0, f1, f2, f3, f4, f5, f6, f7⟩ := HRB.out.unfs
  go_region
  all_goals
    go_wp2
    refine bodyPost_ret (v := .tuple #[.slice A0 L c0, mvv k p s c b t x 0]) (by simp [results, Try.results7, go_sem, z0, z1, z2, z3, z4, z5, z6, z7]) rfl ?_
    refine rend_fin (w2 := w1) HC.out HLM.out ⟨hc01, hc02⟩ (fun h0 y_ hy_ => by have := HNE0.out h0 y_ hy_; omega) (.inl rfl) ?_ ?_ ?_
    · intro y_ hy_
      have h' : ¬ w.heap.size = y_ := fun e => hy_ e.symm
      first | rfl | (simp only [World.setCell, Array.getElem?_modify]; simp [h'])
    · first | rfl | simp [World.setCell]
    · repeat (first | exact HB.out | refine below_cell ?_ _ _)
end Go.Proofs.Ytpffknlbffnafaa.ch
