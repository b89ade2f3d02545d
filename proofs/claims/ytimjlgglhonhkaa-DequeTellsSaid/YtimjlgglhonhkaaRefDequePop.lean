/- Layer deque, the document's answer: pop. -/
import Derived.Test.YtimjlgglhonhkaaRefDequeE
namespace Go.Proofs.Ytimjlgglhonhkaa
open Go.RowKit

set_option maxRecDepth 100000 in
set_option maxHeartbeats 4000000 in
theorem rpop_0 (s c b t x : Int) (v : Value) (m : List Int) (w : World) (h : Cells w v m) (hbig : m.length * 8 ≤ 140737488351232) (hs : I6 s) (hc : I6 c) (hb : U b) (ht : U t) (q : Int) (hq : s64 (s + 1) = q) (y : Int) (hy : loadF m q = y) :
    Calls Try.prog 47 #[v, mvv 2 0 s c b t x 0] w (REnd v w m ⟨2, 1, s, c, y, t, x, 0⟩) := by
  obtain ⟨w1, e1, hb1, hs1, M1, R1⟩ := rbox_two w 2 0 s c b t x 0
  have HE := hide e1
  obtain ⟨A0, c0, rfl, hc01, hc02⟩ := cells_form' h
  have HNE0 := hide (in_ne h)
  obtain ⟨L, hL⟩ : ∃ L, m.length = L := ⟨_, rfl⟩
  have HLM := hide hL
  have HC := hide (h.below hb1)
  have HBG := hide hbig
  have HMB := hide M1
  have HRB := hide R1
  have HB := hide hb1
  obtain ⟨a0, a1, a2, a3, a4, a5, a6, a7⟩ := M1.cells
  have e1_ : IntKind.i64.wrap (s + 1) = q := by rw [wrap_s]; exact hq
  have e2_ : wrap64 (s + 1) = q := by rw [wrap64_s]; exact hq
  have HY := hide hy
  rw [hL] at HC HNE0 hc01 ⊢
  have HI6 := hide hs
  have HIC := hide hc
  have HUB := hide hb
  have HUTT := hide ht
  clear e1 h hs1 M1 R1 hb1 hL hbig hs hc hb ht hq hy
  go_enter Try.func47, Try.ntmps47
  go_wp2_with fail
  rw [HE.out]
  (with_reducible refine (rload_any _ m q _ HY.out _ HC.out HBG.out).mono ?_)
  rintro e v0_ ⟨rfl, hb_⟩
  have HMB := hide (HMB.out.below hb_)
  have HRB := hide (HRB.out.below hb_)
  have HC := hide (HC.out.below hb_)
  have HB := hide (bcall HB.out hb_)
  clear hb_ a0 a1 a2 a3 a4 a5 a6 a7
  obtain ⟨a0, a1, a2, a3, a4, a5, a6, a7⟩ := HMB.out.cells
  obtain ⟨g0, g1, g2, g3, g4, g5, g6, g7⟩ := HMB.out.unfs
  obtain ⟨z0, z1, z2, z3, z4, z5, z6, z7⟩ := HRB.out.cells
  obtain ⟨f0, f1, f2, f3, f4, f5, f6, f7⟩ := HRB.out.unfs
  go_wp2
  go_region
  all_goals
    go_wp2
    refine bodyPost_ret (v := .tuple #[.slice A0 L c0, mvv 2 1 s c y t x 0]) (by simp [results, Try.results47, go_sem, z0, z1, z2, z3, z4, z5, z6, z7]) rfl ?_
    refine rend_fin (w2 := v0_) HC.out HLM.out ⟨hc01, hc02⟩ (fun h0 y_ hy_ => by have := HNE0.out h0 y_ hy_; omega) (.inl rfl) ?_ ?_ ?_
    · intro y_ hy_
      have h' : ¬ w.heap.size = y_ := fun e => hy_ e.symm
      first | rfl | (simp only [World.setCell, Array.getElem?_modify]; simp [h'])
    · simp [World.setCell]
    · repeat (first | exact HB.out | refine below_cell ?_ _ _)
set_option maxRecDepth 100000 in
set_option maxHeartbeats 4000000 in
theorem rpop_1 (s c b t x : Int) (v : Value) (m : List Int) (w : World) (h : Cells w v m) (hbig : m.length * 8 ≤ 140737488351232) (hs : I6 s) (hc : I6 c) (hb : U b) (ht : U t) (q : Int) (hq : s64 (s + 1) = q) (z : Int) (hz : w64 (b - 1) = z) (r : List Int) (hr : storeF m q z = r) :
    Calls Try.prog 47 #[v, mvv 2 1 s c b t x 0] w (REnd v w r ⟨2, 2, s, c, b, t, x, 0⟩) := by
  obtain ⟨w1, e1, hb1, hs1, M1, R1⟩ := rbox_two w 2 1 s c b t x 0
  have HE := hide e1
  obtain ⟨A0, c0, rfl, hc01, hc02⟩ := cells_form' h
  have HNE0 := hide (in_ne h)
  obtain ⟨L, hL⟩ : ∃ L, m.length = L := ⟨_, rfl⟩
  have HLM := hide hL
  have HC := hide (h.below hb1)
  have HBG := hide hbig
  have HMB := hide M1
  have HRB := hide R1
  have HB := hide hb1
  obtain ⟨a0, a1, a2, a3, a4, a5, a6, a7⟩ := M1.cells
  have e1_ : IntKind.i64.wrap (s + 1) = q := by rw [wrap_s]; exact hq
  have e2_ : wrap64 (s + 1) = q := by rw [wrap64_s]; exact hq
  have HR := hide hr
  have HLR := hide (show r.length = L by rw [← hr]; exact (mF_len _ _).trans hL)
  have ez : IntKind.u64.wrap (b - 1) = z := by rw [wrap_w]; exact hz
  rw [hL] at HC HNE0 hc01 ⊢
  have HI6 := hide hs
  have HIC := hide hc
  have HUB := hide hb
  have HUTT := hide ht
  clear e1 h hs1 M1 R1 hb1 hL hbig hs hc hb ht hq hz hr
  go_enter Try.func47, Try.ntmps47
  go_wp2_with fail
  rw [HE.out]
  (with_reducible refine (rstore_any _ m q z r HR.out L HLR.out _ HC.out HBG.out).mono ?_)
  rintro e v0_ ⟨v', rfl, hP⟩
  obtain ⟨A1, c1, rfl, ⟨hcc1, hcc2⟩, hCN, hnew, hb_⟩ := hP
  have HCN := hide hCN
  have HNEN := hide (put_ne HNE0.out hnew HRB.out.lt)
  have HNW := hide (put_new hnew HRB.out.lt)
  clear hCN hnew
  have HMB := hide (HMB.out.below hb_)
  have HRB := hide (HRB.out.below hb_)
  have HC := hide (HC.out.below hb_)
  have HB := hide (bcall HB.out hb_)
  clear hb_ a0 a1 a2 a3 a4 a5 a6 a7
  obtain ⟨a0, a1, a2, a3, a4, a5, a6, a7⟩ := HMB.out.cells
  obtain ⟨g0, g1, g2, g3, g4, g5, g6, g7⟩ := HMB.out.unfs
  obtain ⟨z0, z1, z2, z3, z4, z5, z6, z7⟩ := HRB.out.cells
  obtain ⟨f0, f1, f2, f3, f4, f5, f6, f7⟩ := HRB.out.unfs
  go_wp2
  go_region
  all_goals
    go_wp2
    refine bodyPost_ret (v := .tuple #[.slice A1 L c1, mvv 2 2 s c b t x 0]) (by simp [results, Try.results47, go_sem, z0, z1, z2, z3, z4, z5, z6, z7]) rfl ?_
    refine rend_fin (w2 := v0_) HCN.out HLR.out ⟨hcc1, hcc2⟩ HNEN.out HNW.out ?_ ?_ ?_
    · intro y_ hy_
      have h' : ¬ w.heap.size = y_ := fun e => hy_ e.symm
      first | rfl | (simp only [World.setCell, Array.getElem?_modify]; simp [h'])
    · simp [World.setCell]
    · repeat (first | exact HB.out | refine below_cell ?_ _ _)
set_option maxRecDepth 100000 in
set_option maxHeartbeats 4000000 in
theorem rpop_2y (s c b t x : Int) (v : Value) (m : List Int) (w : World) (h : Cells w v m) (hbig : m.length * 8 ≤ 140737488351232) (hs : I6 s) (hc : I6 c) (hb : U b) (ht : U t) (y : Int) (hy : loadF m s = y) (z b1 : Int) (hb1_ : w64 (b - 1) = b1) (hz : s64 (y - b1) = z) (hq : 0 < z) :
    Calls Try.prog 47 #[v, mvv 2 2 s c b t x 0] w (REnd v w m ⟨2, 5, s, c, b, y, x, 0⟩) := by
  obtain ⟨w1, e1, hb1, hs1, M1, R1⟩ := rbox_two w 2 2 s c b t x 0
  have HE := hide e1
  obtain ⟨A0, c0, rfl, hc01, hc02⟩ := cells_form' h
  have HNE0 := hide (in_ne h)
  obtain ⟨L, hL⟩ : ∃ L, m.length = L := ⟨_, rfl⟩
  have HLM := hide hL
  have HC := hide (h.below hb1)
  have HBG := hide hbig
  have HMB := hide M1
  have HRB := hide R1
  have HB := hide hb1
  obtain ⟨a0, a1, a2, a3, a4, a5, a6, a7⟩ := M1.cells
  have HY := hide hy
  have eb1 : IntKind.u64.wrap (b - 1) = b1 := by rw [wrap_w]; exact hb1_
  obtain ⟨z0_, hz0_⟩ : ∃ z0, w64 (y - b1) = z0 := ⟨_, rfl⟩
  have ez1 : IntKind.u64.wrap (y - b1) = z0_ := by rw [wrap_w]; exact hz0_
  have ez2 : IntKind.i64.wrap z0_ = z := by rw [wrap_s, ← hz0_, s64_w64]; exact hz
  have ez3 : wrap64 z0_ = z := by rw [wrap64_s, ← hz0_, s64_w64]; exact hz
  have dq : decide (0 < z) = true := decide_eq_true hq
  rw [hL] at HC HNE0 hc01 ⊢
  have HI6 := hide hs
  have HIC := hide hc
  have HUB := hide hb
  have HUTT := hide ht
  clear e1 h hs1 M1 R1 hb1 hL hbig hs hc hb ht hy hz hb1_ hz0_
  go_enter Try.func47, Try.ntmps47
  go_wp2_with fail
  rw [HE.out]
  (with_reducible refine (rload_any _ m s _ HY.out _ HC.out HBG.out).mono ?_)
  rintro e v0_ ⟨rfl, hb_⟩
  have HMB := hide (HMB.out.below hb_)
  have HRB := hide (HRB.out.below hb_)
  have HC := hide (HC.out.below hb_)
  have HB := hide (bcall HB.out hb_)
  clear hb_ a0 a1 a2 a3 a4 a5 a6 a7
  obtain ⟨a0, a1, a2, a3, a4, a5, a6, a7⟩ := HMB.out.cells
  obtain ⟨g0, g1, g2, g3, g4, g5, g6, g7⟩ := HMB.out.unfs
  obtain ⟨z0, z1, z2, z3, z4, z5, z6, z7⟩ := HRB.out.cells
  obtain ⟨f0, f1, f2, f3, f4, f5, f6, f7⟩ := HRB.out.unfs
  go_wp2
  go_region
  all_goals
    go_wp2
    refine bodyPost_ret (v := .tuple #[.slice A0 L c0, mvv 2 5 s c b y x 0]) (by simp [results, Try.results47, go_sem, z0, z1, z2, z3, z4, z5, z6, z7]) rfl ?_
    refine rend_fin (w2 := v0_) HC.out HLM.out ⟨hc01, hc02⟩ (fun h0 y_ hy_ => by have := HNE0.out h0 y_ hy_; omega) (.inl rfl) ?_ ?_ ?_
    · intro y_ hy_
      have h' : ¬ w.heap.size = y_ := fun e => hy_ e.symm
      first | rfl | (simp only [World.setCell, Array.getElem?_modify]; simp [h'])
    · simp [World.setCell]
    · repeat (first | exact HB.out | refine below_cell ?_ _ _)
set_option maxRecDepth 100000 in
set_option maxHeartbeats 4000000 in
theorem rpop_2n (s c b t x : Int) (v : Value) (m : List Int) (w : World) (h : Cells w v m) (hbig : m.length * 8 ≤ 140737488351232) (hs : I6 s) (hc : I6 c) (hb : U b) (ht : U t) (y : Int) (hy : loadF m s = y) (z b1 : Int) (hb1_ : w64 (b - 1) = b1) (hz : s64 (y - b1) = z) (hq : ¬ 0 < z) :
    Calls Try.prog 47 #[v, mvv 2 2 s c b t x 0] w (REnd v w m ⟨2, 3, s, c, b, y, x, 0⟩) := by
  obtain ⟨w1, e1, hb1, hs1, M1, R1⟩ := rbox_two w 2 2 s c b t x 0
  have HE := hide e1
  obtain ⟨A0, c0, rfl, hc01, hc02⟩ := cells_form' h
  have HNE0 := hide (in_ne h)
  obtain ⟨L, hL⟩ : ∃ L, m.length = L := ⟨_, rfl⟩
  have HLM := hide hL
  have HC := hide (h.below hb1)
  have HBG := hide hbig
  have HMB := hide M1
  have HRB := hide R1
  have HB := hide hb1
  obtain ⟨a0, a1, a2, a3, a4, a5, a6, a7⟩ := M1.cells
  have HY := hide hy
  have eb1 : IntKind.u64.wrap (b - 1) = b1 := by rw [wrap_w]; exact hb1_
  obtain ⟨z0_, hz0_⟩ : ∃ z0, w64 (y - b1) = z0 := ⟨_, rfl⟩
  have ez1 : IntKind.u64.wrap (y - b1) = z0_ := by rw [wrap_w]; exact hz0_
  have ez2 : IntKind.i64.wrap z0_ = z := by rw [wrap_s, ← hz0_, s64_w64]; exact hz
  have ez3 : wrap64 z0_ = z := by rw [wrap64_s, ← hz0_, s64_w64]; exact hz
  have dq : decide (0 < z) = false := decide_eq_false hq
  rw [hL] at HC HNE0 hc01 ⊢
  have HI6 := hide hs
  have HIC := hide hc
  have HUB := hide hb
  have HUTT := hide ht
  clear e1 h hs1 M1 R1 hb1 hL hbig hs hc hb ht hy hz hb1_ hz0_
  go_enter Try.func47, Try.ntmps47
  go_wp2_with fail
  rw [HE.out]
  (with_reducible refine (rload_any _ m s _ HY.out _ HC.out HBG.out).mono ?_)
  rintro e v0_ ⟨rfl, hb_⟩
  have HMB := hide (HMB.out.below hb_)
  have HRB := hide (HRB.out.below hb_)
  have HC := hide (HC.out.below hb_)
  have HB := hide (bcall HB.out hb_)
  clear hb_ a0 a1 a2 a3 a4 a5 a6 a7
  obtain ⟨a0, a1, a2, a3, a4, a5, a6, a7⟩ := HMB.out.cells
  obtain ⟨g0, g1, g2, g3, g4, g5, g6, g7⟩ := HMB.out.unfs
  obtain ⟨z0, z1, z2, z3, z4, z5, z6, z7⟩ := HRB.out.cells
  obtain ⟨f0, f1, f2, f3, f4, f5, f6, f7⟩ := HRB.out.unfs
  go_wp2
  go_region
  all_goals
    go_wp2
    refine bodyPost_ret (v := .tuple #[.slice A0 L c0, mvv 2 3 s c b y x 0]) (by simp [results, Try.results47, go_sem, z0, z1, z2, z3, z4, z5, z6, z7]) rfl ?_
    refine rend_fin (w2 := v0_) HC.out HLM.out ⟨hc01, hc02⟩ (fun h0 y_ hy_ => by have := HNE0.out h0 y_ hy_; omega) (.inl rfl) ?_ ?_ ?_
    · intro y_ hy_
      have h' : ¬ w.heap.size = y_ := fun e => hy_ e.symm
      first | rfl | (simp only [World.setCell, Array.getElem?_modify]; simp [h'])
    · simp [World.setCell]
    · repeat (first | exact HB.out | refine below_cell ?_ _ _)
set_option maxRecDepth 100000 in
set_option maxHeartbeats 4000000 in
theorem rpop_3y (s c b t x : Int) (v : Value) (m : List Int) (w : World) (h : Cells w v m) (hbig : m.length * 8 ≤ 140737488351232) (hs : I6 s) (hc : I6 c) (hb : U b) (ht : U t) (b1 : Int) (hb1_ : w64 (b - 1) = b1) (q : Int) (hq : s64 (s + 2 + b1 % max c 1) = q) (y : Int) (hy : loadF m q = y) (x1 : Int) (hx : s64 y = x1) (hq2 : t = b1) :
    Calls Try.prog 47 #[v, mvv 2 3 s c b t x 0] w (REnd v w m ⟨2, 4, s, c, b, t, x1, 0⟩) := by
  obtain ⟨w1, e1, hb1, hs1, M1, R1⟩ := rbox_two w 2 3 s c b t x 0
  have HE := hide e1
  obtain ⟨A0, c0, rfl, hc01, hc02⟩ := cells_form' h
  have HNE0 := hide (in_ne h)
  obtain ⟨L, hL⟩ : ∃ L, m.length = L := ⟨_, rfl⟩
  have HLM := hide hL
  have HC := hide (h.below hb1)
  have HBG := hide hbig
  have HMB := hide M1
  have HRB := hide R1
  have HB := hide hb1
  obtain ⟨a0, a1, a2, a3, a4, a5, a6, a7⟩ := M1.cells
  have eb1 : IntKind.u64.wrap (b - 1) = b1 := by rw [wrap_w]; exact hb1_
  have HQ := hide hq
  have HCC := hide hc
  have HUU := hide (show U b1 by rw [← hb1_]; exact w64_U' _)
  have HY := hide hy
  have ex : IntKind.i64.wrap y = x1 := by rw [wrap_s]; exact hx
  have ex2 : wrap64 y = x1 := by rw [wrap64_s]; exact hx
  have dq : (t != b1) = false := by rw [bne_eq_false_iff_eq]; exact hq2
  rw [hL] at HC HNE0 hc01 ⊢
  have HI6 := hide hs
  have HIC := hide hc
  have HUB := hide hb
  have HUTT := hide ht
  clear e1 h hs1 M1 R1 hb1 hL hbig hs hc hb ht hq hy hx hb1_ hq2
  go_enter Try.func47, Try.ntmps47
  go_wp2_with fail
  rw [HE.out]
  (with_reducible refine (rplace_any 2 3 s c b t x 0 b1 q HCC.out HUU.out HQ.out _).mono ?_)
  rintro e v0_ ⟨rfl, hb_⟩
  have HMB := hide (HMB.out.below hb_)
  have HRB := hide (HRB.out.below hb_)
  have HC := hide (HC.out.below hb_)
  have HB := hide (bcall HB.out hb_)
  clear hb_ a0 a1 a2 a3 a4 a5 a6 a7
  obtain ⟨a0, a1, a2, a3, a4, a5, a6, a7⟩ := HMB.out.cells
  go_wp2_with fail
  (with_reducible refine (rload_any _ m q _ HY.out _ HC.out HBG.out).mono ?_)
  rintro e v1_ ⟨rfl, hb_⟩
  have HMB := hide (HMB.out.below hb_)
  have HRB := hide (HRB.out.below hb_)
  have HC := hide (HC.out.below hb_)
  have HB := hide (bcall HB.out hb_)
  clear hb_ a0 a1 a2 a3 a4 a5 a6 a7
  obtain ⟨a0, a1, a2, a3, a4, a5, a6, a7⟩ := HMB.out.cells
  obtain ⟨g0, g1, g2, g3, g4, g5, g6, g7⟩ := HMB.out.unfs
  obtain ⟨z0, z1, z2, z3, z4, z5, z6, z7⟩ := HRB.out.cells
  obtain ⟨f0, f1, f2, f3, f4, f5, f6, f7⟩ := HRB.out.unfs
  go_wp2
  go_region
  all_goals
    go_wp2
    refine bodyPost_ret (v := .tuple #[.slice A0 L c0, mvv 2 4 s c b t x1 0]) (by simp [results, Try.results47, go_sem, z0, z1, z2, z3, z4, z5, z6, z7]) rfl ?_
    refine rend_fin (w2 := v1_) HC.out HLM.out ⟨hc01, hc02⟩ (fun h0 y_ hy_ => by have := HNE0.out h0 y_ hy_; omega) (.inl rfl) ?_ ?_ ?_
    · intro y_ hy_
      have h' : ¬ w.heap.size = y_ := fun e => hy_ e.symm
      first | rfl | (simp only [World.setCell, Array.getElem?_modify]; simp [h'])
    · simp [World.setCell]
    · repeat (first | exact HB.out | refine below_cell ?_ _ _)
set_option maxRecDepth 100000 in
set_option maxHeartbeats 4000000 in
theorem rpop_3n (s c b t x : Int) (v : Value) (m : List Int) (w : World) (h : Cells w v m) (hbig : m.length * 8 ≤ 140737488351232) (hs : I6 s) (hc : I6 c) (hb : U b) (ht : U t) (b1 : Int) (hb1_ : w64 (b - 1) = b1) (q : Int) (hq : s64 (s + 2 + b1 % max c 1) = q) (y : Int) (hy : loadF m q = y) (x1 : Int) (hx : s64 y = x1) (hq2 : t ≠ b1) :
    Calls Try.prog 47 #[v, mvv 2 3 s c b t x 0] w (REnd v w m ⟨2, 4, s, c, b, t, x1, 1⟩) := by
  obtain ⟨w1, e1, hb1, hs1, M1, R1⟩ := rbox_two w 2 3 s c b t x 0
  have HE := hide e1
  obtain ⟨A0, c0, rfl, hc01, hc02⟩ := cells_form' h
  have HNE0 := hide (in_ne h)
  obtain ⟨L, hL⟩ : ∃ L, m.length = L := ⟨_, rfl⟩
  have HLM := hide hL
  have HC := hide (h.below hb1)
  have HBG := hide hbig
  have HMB := hide M1
  have HRB := hide R1
  have HB := hide hb1
  obtain ⟨a0, a1, a2, a3, a4, a5, a6, a7⟩ := M1.cells
  have eb1 : IntKind.u64.wrap (b - 1) = b1 := by rw [wrap_w]; exact hb1_
  have HQ := hide hq
  have HCC := hide hc
  have HUU := hide (show U b1 by rw [← hb1_]; exact w64_U' _)
  have HY := hide hy
  have ex : IntKind.i64.wrap y = x1 := by rw [wrap_s]; exact hx
  have ex2 : wrap64 y = x1 := by rw [wrap64_s]; exact hx
  have dq : (t != b1) = true := by rw [bne_iff_ne]; exact hq2
  rw [hL] at HC HNE0 hc01 ⊢
  have HI6 := hide hs
  have HIC := hide hc
  have HUB := hide hb
  have HUTT := hide ht
  clear e1 h hs1 M1 R1 hb1 hL hbig hs hc hb ht hq hy hx hb1_ hq2
  go_enter Try.func47, Try.ntmps47
  go_wp2_with fail
  rw [HE.out]
  (with_reducible refine (rplace_any 2 3 s c b t x 0 b1 q HCC.out HUU.out HQ.out _).mono ?_)
  rintro e v0_ ⟨rfl, hb_⟩
  have HMB := hide (HMB.out.below hb_)
  have HRB := hide (HRB.out.below hb_)
  have HC := hide (HC.out.below hb_)
  have HB := hide (bcall HB.out hb_)
  clear hb_ a0 a1 a2 a3 a4 a5 a6 a7
  obtain ⟨a0, a1, a2, a3, a4, a5, a6, a7⟩ := HMB.out.cells
  go_wp2_with fail
  (with_reducible refine (rload_any _ m q _ HY.out _ HC.out HBG.out).mono ?_)
  rintro e v1_ ⟨rfl, hb_⟩
  have HMB := hide (HMB.out.below hb_)
  have HRB := hide (HRB.out.below hb_)
  have HC := hide (HC.out.below hb_)
  have HB := hide (bcall HB.out hb_)
  clear hb_ a0 a1 a2 a3 a4 a5 a6 a7
  obtain ⟨a0, a1, a2, a3, a4, a5, a6, a7⟩ := HMB.out.cells
  obtain ⟨g0, g1, g2, g3, g4, g5, g6, g7⟩ := HMB.out.unfs
  obtain ⟨z0, z1, z2, z3, z4, z5, z6, z7⟩ := HRB.out.cells
  obtain ⟨f0, f1, f2, f3, f4, f5, f6, f7⟩ := HRB.out.unfs
  go_wp2
  go_region
  all_goals
    go_wp2
    refine bodyPost_ret (v := .tuple #[.slice A0 L c0, mvv 2 4 s c b t x1 1]) (by simp [results, Try.results47, go_sem, z0, z1, z2, z3, z4, z5, z6, z7]) rfl ?_
    refine rend_fin (w2 := v1_) HC.out HLM.out ⟨hc01, hc02⟩ (fun h0 y_ hy_ => by have := HNE0.out h0 y_ hy_; omega) (.inl rfl) ?_ ?_ ?_
    · intro y_ hy_
      have h' : ¬ w.heap.size = y_ := fun e => hy_ e.symm
      first | rfl | (simp only [World.setCell, Array.getElem?_modify]; simp [h'])
    · simp [World.setCell]
    · repeat (first | exact HB.out | refine below_cell ?_ _ _)
set_option maxRecDepth 100000 in
set_option maxHeartbeats 4000000 in
theorem rpop_4y (s c b t x : Int) (v : Value) (m : List Int) (w : World) (h : Cells w v m) (hbig : m.length * 8 ≤ 140737488351232) (hs : I6 s) (hc : I6 c) (hb : U b) (ht : U t) (z : Int) (hz : w64 (t + 1) = z) (r : List Int) (hr : swapF m s t z = r) (hfl : swapsF m s t z = true) :
    Calls Try.prog 47 #[v, mvv 2 4 s c b t x 0] w (REnd v w r ⟨2, 6, s, c, b, t, x, 0⟩) := by
  obtain ⟨w1, e1, hb1, hs1, M1, R1⟩ := rbox_two w 2 4 s c b t x 0
  have HE := hide e1
  obtain ⟨A0, c0, rfl, hc01, hc02⟩ := cells_form' h
  have HNE0 := hide (in_ne h)
  obtain ⟨L, hL⟩ : ∃ L, m.length = L := ⟨_, rfl⟩
  have HLM := hide hL
  have HC := hide (h.below hb1)
  have HBG := hide hbig
  have HMB := hide M1
  have HRB := hide R1
  have HB := hide hb1
  obtain ⟨a0, a1, a2, a3, a4, a5, a6, a7⟩ := M1.cells
  have HR := hide hr
  have HLR := hide (show r.length = L by rw [← hr]; exact (mF_len _ _).trans hL)
  have HFL := hide hfl
  have ez : IntKind.u64.wrap (t + 1) = z := by rw [wrap_w]; exact hz
  rw [hL] at HC HNE0 hc01 ⊢
  have HI6 := hide hs
  have HIC := hide hc
  have HUB := hide hb
  have HUTT := hide ht
  clear e1 h hs1 M1 R1 hb1 hL hbig hs hc hb ht hz hr hfl
  go_enter Try.func47, Try.ntmps47
  go_wp2_with fail
  rw [HE.out]
  (with_reducible refine (rswap_any _ m s t z r HR.out true HFL.out L HLR.out _ HC.out HBG.out).mono ?_)
  rintro e v0_ ⟨v', rfl, hP⟩
  obtain ⟨A1, c1, rfl, ⟨hcc1, hcc2⟩, hCN, hnew, hb_⟩ := hP
  have HCN := hide hCN
  have HNEN := hide (put_ne HNE0.out hnew HRB.out.lt)
  have HNW := hide (put_new hnew HRB.out.lt)
  clear hCN hnew
  have HMB := hide (HMB.out.below hb_)
  have HRB := hide (HRB.out.below hb_)
  have HC := hide (HC.out.below hb_)
  have HB := hide (bcall HB.out hb_)
  clear hb_ a0 a1 a2 a3 a4 a5 a6 a7
  obtain ⟨a0, a1, a2, a3, a4, a5, a6, a7⟩ := HMB.out.cells
  obtain ⟨g0, g1, g2, g3, g4, g5, g6, g7⟩ := HMB.out.unfs
  obtain ⟨z0, z1, z2, z3, z4, z5, z6, z7⟩ := HRB.out.cells
  obtain ⟨f0, f1, f2, f3, f4, f5, f6, f7⟩ := HRB.out.unfs
  go_wp2
  go_region
  all_goals
    go_wp2
    refine bodyPost_ret (v := .tuple #[.slice A1 L c1, mvv 2 6 s c b t x 0]) (by simp [results, Try.results47, go_sem, z0, z1, z2, z3, z4, z5, z6, z7]) rfl ?_
    refine rend_fin (w2 := v0_) HCN.out HLR.out ⟨hcc1, hcc2⟩ HNEN.out HNW.out ?_ ?_ ?_
    · intro y_ hy_
      have h' : ¬ w.heap.size = y_ := fun e => hy_ e.symm
      first | rfl | (simp only [World.setCell, Array.getElem?_modify]; simp [h'])
    · simp [World.setCell]
    · repeat (first | exact HB.out | refine below_cell ?_ _ _)
set_option maxRecDepth 100000 in
set_option maxHeartbeats 4000000 in
theorem rpop_4n (s c b t x : Int) (v : Value) (m : List Int) (w : World) (h : Cells w v m) (hbig : m.length * 8 ≤ 140737488351232) (hs : I6 s) (hc : I6 c) (hb : U b) (ht : U t) (z : Int) (hz : w64 (t + 1) = z) (r : List Int) (hr : swapF m s t z = r) (hfl : swapsF m s t z = false) :
    Calls Try.prog 47 #[v, mvv 2 4 s c b t x 0] w (REnd v w r ⟨2, 5, s, c, b, t, x, 0⟩) := by
  obtain ⟨w1, e1, hb1, hs1, M1, R1⟩ := rbox_two w 2 4 s c b t x 0
  have HE := hide e1
  obtain ⟨A0, c0, rfl, hc01, hc02⟩ := cells_form' h
  have HNE0 := hide (in_ne h)
  obtain ⟨L, hL⟩ : ∃ L, m.length = L := ⟨_, rfl⟩
  have HLM := hide hL
  have HC := hide (h.below hb1)
  have HBG := hide hbig
  have HMB := hide M1
  have HRB := hide R1
  have HB := hide hb1
  obtain ⟨a0, a1, a2, a3, a4, a5, a6, a7⟩ := M1.cells
  have HR := hide hr
  have HLR := hide (show r.length = L by rw [← hr]; exact (mF_len _ _).trans hL)
  have HFL := hide hfl
  have ez : IntKind.u64.wrap (t + 1) = z := by rw [wrap_w]; exact hz
  rw [hL] at HC HNE0 hc01 ⊢
  have HI6 := hide hs
  have HIC := hide hc
  have HUB := hide hb
  have HUTT := hide ht
  clear e1 h hs1 M1 R1 hb1 hL hbig hs hc hb ht hz hr hfl
  go_enter Try.func47, Try.ntmps47
  go_wp2_with fail
  rw [HE.out]
  (with_reducible refine (rswap_any _ m s t z r HR.out false HFL.out L HLR.out _ HC.out HBG.out).mono ?_)
  rintro e v0_ ⟨v', rfl, hP⟩
  obtain ⟨A1, c1, rfl, ⟨hcc1, hcc2⟩, hCN, hnew, hb_⟩ := hP
  have HCN := hide hCN
  have HNEN := hide (put_ne HNE0.out hnew HRB.out.lt)
  have HNW := hide (put_new hnew HRB.out.lt)
  clear hCN hnew
  have HMB := hide (HMB.out.below hb_)
  have HRB := hide (HRB.out.below hb_)
  have HC := hide (HC.out.below hb_)
  have HB := hide (bcall HB.out hb_)
  clear hb_ a0 a1 a2 a3 a4 a5 a6 a7
  obtain ⟨a0, a1, a2, a3, a4, a5, a6, a7⟩ := HMB.out.cells
  obtain ⟨g0, g1, g2, g3, g4, g5, g6, g7⟩ := HMB.out.unfs
  obtain ⟨z0, z1, z2, z3, z4, z5, z6, z7⟩ := HRB.out.cells
  obtain ⟨f0, f1, f2, f3, f4, f5, f6, f7⟩ := HRB.out.unfs
  go_wp2
  go_region
  all_goals
    go_wp2
    refine bodyPost_ret (v := .tuple #[.slice A1 L c1, mvv 2 5 s c b t x 0]) (by simp [results, Try.results47, go_sem, z0, z1, z2, z3, z4, z5, z6, z7]) rfl ?_
    refine rend_fin (w2 := v0_) HCN.out HLR.out ⟨hcc1, hcc2⟩ HNEN.out HNW.out ?_ ?_ ?_
    · intro y_ hy_
      have h' : ¬ w.heap.size = y_ := fun e => hy_ e.symm
      first | rfl | (simp only [World.setCell, Array.getElem?_modify]; simp [h'])
    · simp [World.setCell]
    · repeat (first | exact HB.out | refine below_cell ?_ _ _)
set_option maxRecDepth 100000 in
set_option maxHeartbeats 4000000 in
theorem rpop_5 (s c b t x : Int) (v : Value) (m : List Int) (w : World) (h : Cells w v m) (hbig : m.length * 8 ≤ 140737488351232) (hs : I6 s) (hc : I6 c) (hb : U b) (ht : U t) (q : Int) (hq : s64 (s + 1) = q) (r : List Int) (hr : storeF m q b = r) :
    Calls Try.prog 47 #[v, mvv 2 5 s c b t x 0] w (REnd v w r ⟨2, 6, s, c, b, t, 0, 2⟩) := by
  obtain ⟨w1, e1, hb1, hs1, M1, R1⟩ := rbox_two w 2 5 s c b t x 0
  have HE := hide e1
  obtain ⟨A0, c0, rfl, hc01, hc02⟩ := cells_form' h
  have HNE0 := hide (in_ne h)
  obtain ⟨L, hL⟩ : ∃ L, m.length = L := ⟨_, rfl⟩
  have HLM := hide hL
  have HC := hide (h.below hb1)
  have HBG := hide hbig
  have HMB := hide M1
  have HRB := hide R1
  have HB := hide hb1
  obtain ⟨a0, a1, a2, a3, a4, a5, a6, a7⟩ := M1.cells
  have e1_ : IntKind.i64.wrap (s + 1) = q := by rw [wrap_s]; exact hq
  have e2_ : wrap64 (s + 1) = q := by rw [wrap64_s]; exact hq
  have HR := hide hr
  have HLR := hide (show r.length = L by rw [← hr]; exact (mF_len _ _).trans hL)
  rw [hL] at HC HNE0 hc01 ⊢
  have HI6 := hide hs
  have HIC := hide hc
  have HUB := hide hb
  have HUTT := hide ht
  clear e1 h hs1 M1 R1 hb1 hL hbig hs hc hb ht hq hr
  go_enter Try.func47, Try.ntmps47
  go_wp2_with fail
  rw [HE.out]
  (with_reducible refine (rstore_any _ m q b r HR.out L HLR.out _ HC.out HBG.out).mono ?_)
  rintro e v0_ ⟨v', rfl, hP⟩
  obtain ⟨A1, c1, rfl, ⟨hcc1, hcc2⟩, hCN, hnew, hb_⟩ := hP
  have HCN := hide hCN
  have HNEN := hide (put_ne HNE0.out hnew HRB.out.lt)
  have HNW := hide (put_new hnew HRB.out.lt)
  clear hCN hnew
  have HMB := hide (HMB.out.below hb_)
  have HRB := hide (HRB.out.below hb_)
  have HC := hide (HC.out.below hb_)
  have HB := hide (bcall HB.out hb_)
  clear hb_ a0 a1 a2 a3 a4 a5 a6 a7
  obtain ⟨a0, a1, a2, a3, a4, a5, a6, a7⟩ := HMB.out.cells
  obtain ⟨g0, g1, g2, g3, g4, g5, g6, g7⟩ := HMB.out.unfs
  obtain ⟨z0, z1, z2, z3, z4, z5, z6, z7⟩ := HRB.out.cells
  obtain ⟨f0, f1, f2, f3, f4, f5, f6, f7⟩ := HRB.out.unfs
  go_wp2
  go_region
  all_goals
    go_wp2
    refine bodyPost_ret (v := .tuple #[.slice A1 L c1, mvv 2 6 s c b t 0 2]) (by simp [results, Try.results47, go_sem, z0, z1, z2, z3, z4, z5, z6, z7]) rfl ?_
    refine rend_fin (w2 := v0_) HCN.out HLR.out ⟨hcc1, hcc2⟩ HNEN.out HNW.out ?_ ?_ ?_
    · intro y_ hy_
      have h' : ¬ w.heap.size = y_ := fun e => hy_ e.symm
      first | rfl | (simp only [World.setCell, Array.getElem?_modify]; simp [h'])
    · simp [World.setCell]
    · repeat (first | exact HB.out | refine below_cell ?_ _ _)
set_option maxRecDepth 100000 in
set_option maxHeartbeats 4000000 in
theorem rpop_6 (s c b t x : Int) (v : Value) (m : List Int) (w : World) (h : Cells w v m) (hbig : m.length * 8 ≤ 140737488351232) (hs : I6 s) (hc : I6 c) (hb : U b) (ht : U t) (q : Int) (hq : s64 (s + 1) = q) (r : List Int) (hr : storeF m q b = r) :
    Calls Try.prog 47 #[v, mvv 2 6 s c b t x 0] w (REnd v w r ⟨2, 7, s, c, b, t, x, 1⟩) := by
  obtain ⟨w1, e1, hb1, hs1, M1, R1⟩ := rbox_two w 2 6 s c b t x 0
  have HE := hide e1
  obtain ⟨A0, c0, rfl, hc01, hc02⟩ := cells_form' h
  have HNE0 := hide (in_ne h)
  obtain ⟨L, hL⟩ : ∃ L, m.length = L := ⟨_, rfl⟩
  have HLM := hide hL
  have HC := hide (h.below hb1)
  have HBG := hide hbig
  have HMB := hide M1
  have HRB := hide R1
  have HB := hide hb1
  obtain ⟨a0, a1, a2, a3, a4, a5, a6, a7⟩ := M1.cells
  have e1_ : IntKind.i64.wrap (s + 1) = q := by rw [wrap_s]; exact hq
  have e2_ : wrap64 (s + 1) = q := by rw [wrap64_s]; exact hq
  have HR := hide hr
  have HLR := hide (show r.length = L by rw [← hr]; exact (mF_len _ _).trans hL)
  rw [hL] at HC HNE0 hc01 ⊢
  have HI6 := hide hs
  have HIC := hide hc
  have HUB := hide hb
  have HUTT := hide ht
  clear e1 h hs1 M1 R1 hb1 hL hbig hs hc hb ht hq hr
  go_enter Try.func47, Try.ntmps47
  go_wp2_with fail
  rw [HE.out]
  (with_reducible refine (rstore_any _ m q b r HR.out L HLR.out _ HC.out HBG.out).mono ?_)
  rintro e v0_ ⟨v', rfl, hP⟩
  obtain ⟨A1, c1, rfl, ⟨hcc1, hcc2⟩, hCN, hnew, hb_⟩ := hP
  have HCN := hide hCN
  have HNEN := hide (put_ne HNE0.out hnew HRB.out.lt)
  have HNW := hide (put_new hnew HRB.out.lt)
  clear hCN hnew
  have HMB := hide (HMB.out.below hb_)
  have HRB := hide (HRB.out.below hb_)
  have HC := hide (HC.out.below hb_)
  have HB := hide (bcall HB.out hb_)
  clear hb_ a0 a1 a2 a3 a4 a5 a6 a7
  obtain ⟨a0, a1, a2, a3, a4, a5, a6, a7⟩ := HMB.out.cells
  obtain ⟨g0, g1, g2, g3, g4, g5, g6, g7⟩ := HMB.out.unfs
  obtain ⟨z0, z1, z2, z3, z4, z5, z6, z7⟩ := HRB.out.cells
  obtain ⟨f0, f1, f2, f3, f4, f5, f6, f7⟩ := HRB.out.unfs
  go_wp2
  go_region
  all_goals
    go_wp2
    refine bodyPost_ret (v := .tuple #[.slice A1 L c1, mvv 2 7 s c b t x 1]) (by simp [results, Try.results47, go_sem, z0, z1, z2, z3, z4, z5, z6, z7]) rfl ?_
    refine rend_fin (w2 := v0_) HCN.out HLR.out ⟨hcc1, hcc2⟩ HNEN.out HNW.out ?_ ?_ ?_
    · intro y_ hy_
      have h' : ¬ w.heap.size = y_ := fun e => hy_ e.symm
      first | rfl | (simp only [World.setCell, Array.getElem?_modify]; simp [h'])
    · simp [World.setCell]
    · repeat (first | exact HB.out | refine below_cell ?_ _ _)
set_option maxRecDepth 100000 in
set_option maxHeartbeats 4000000 in
theorem rpop_d (p s c b t x : Int) (v : Value) (m : List Int) (w : World) (h : Cells w v m) (hbig : m.length * 8 ≤ 140737488351232) (hs : I6 s) (hc : I6 c) (hb : U b) (ht : U t) (q0 : (p == 0) = false) (q1 : (p == 1) = false) (q2 : (p == 2) = false) (q3 : (p == 3) = false) (q4 : (p == 4) = false) (q5 : (p == 5) = false) (q6 : (p == 6) = false) :
    Calls Try.prog 47 #[v, mvv 2 p s c b t x 0] w (REnd v w m ⟨2, p, s, c, b, t, x, 0⟩) := by
  obtain ⟨w1, e1, hb1, hs1, M1, R1⟩ := rbox_two w 2 p s c b t x 0
  have HE := hide e1
  obtain ⟨A0, c0, rfl, hc01, hc02⟩ := cells_form' h
  have HNE0 := hide (in_ne h)
  obtain ⟨L, hL⟩ : ∃ L, m.length = L := ⟨_, rfl⟩
  have HLM := hide hL
  have HC := hide (h.below hb1)
  have HBG := hide hbig
  have HMB := hide M1
  have HRB := hide R1
  have HB := hide hb1
  obtain ⟨a0, a1, a2, a3, a4, a5, a6, a7⟩ := M1.cells
  rw [hL] at HC HNE0 hc01 ⊢
  have HI6 := hide hs
  have HIC := hide hc
  have HUB := hide hb
  have HUTT := hide ht
  clear e1 h hs1 M1 R1 hb1 hL hbig hs hc hb ht
  go_enter Try.func47, Try.ntmps47
  go_upto_region 3 with (fail)
  rw [HE.out]
  obtain ⟨g0, g1, g2, g3, g4, g5, g6, g7⟩ := HMB.out.unfs
  obtain ⟨z0, z1, z2, z3, z4, z5, z6, z7⟩ := HRB.out.cells
  obtain ⟨f0, f1, f2, f3, f4, f5, f6, f7⟩ := HRB.out.unfs
  go_region
  all_goals
    go_wp2
    refine bodyPost_ret (v := .tuple #[.slice A0 L c0, mvv 2 p s c b t x 0]) (by simp [results, Try.results47, go_sem, z0, z1, z2, z3, z4, z5, z6, z7]) rfl ?_
    refine rend_fin (w2 := w1) (w9 := w1) HC.out HLM.out ⟨hc01, hc02⟩ (fun h0 y_ hy_ => by have := HNE0.out h0 y_ hy_; omega) (.inl rfl) (fun _ _ => rfl) rfl HB.out
end Go.Proofs.Ytimjlgglhonhkaa
