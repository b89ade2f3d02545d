/- Layer deque, the document's answer: Step, its calls. -/
import Derived.Test.YtimjlgglhonhkaaRefDequeE
namespace Go.Proofs.Ytimjlgglhonhkaa
open Go.RowKit

set_option maxRecDepth 100000 in
set_option maxHeartbeats 4000000 in
theorem rstep_1 (p s c b t x : Int) (v : Value) (m : List Int) (w : World) (h : Cells w v m) (m' : List Int) (hm : m'.length = m.length) (K P S C B T X O : Int)
    (hcall : ∀ (v : Value) (w : World), Cells w v m → Calls Try.prog 46 #[v, mvv 1 p s c b t x 0] w (REnd v w m' ⟨K, P, S, C, B, T, X, O⟩)) :
    Calls Try.prog 13 #[v, mvv 1 p s c b t x 0] w (REnd v w m' ⟨K, P, S, C, B, T, X, O⟩) := by
  obtain ⟨w1, e1, hb1, hs1, M1, R1⟩ := rbox_two w 1 p s c b t x 0
  have HE := hide e1
  obtain ⟨A0, c0, rfl, hc01, hc02⟩ := cells_form' h
  have HNE0 := hide (in_ne h)
  obtain ⟨L, hL⟩ : ∃ L, m.length = L := ⟨_, rfl⟩
  have HC := hide (h.below hb1)
  have HMB := hide M1
  have HRB := hide R1
  have HB := hide hb1
  obtain ⟨a0, a1, a2, a3, a4, a5, a6, a7⟩ := M1.cells
  have HLN := hide (hm.trans hL)
  rw [hL] at HC HNE0 hc01 ⊢
  have HK := hide hcall
  clear e1 h hs1 M1 R1 hb1 hL hm hcall
  go_enter Try.func13, Try.ntmps13
  go_wp2_with fail
  rw [HE.out]
  (with_reducible refine (HK.out _ _ HC.out).mono ?_)
  rintro e v0_ ⟨A1, c1, rfl, ⟨hcc1, hcc2⟩, hCN, hnew, hb_⟩
  rw [HLN.out] at hCN hnew hcc1 ⊢
  rw [show mv ⟨K, P, S, C, B, T, X, O⟩ = mvv K P S C B T X O from rfl]
  have HCN := hide hCN
  have HNEN := hide (put_ne HNE0.out hnew HRB.out.lt)
  have HNW := hide (put_new hnew HRB.out.lt)
  clear hCN hnew
  have HRB := hide (HRB.out.below hb_)
  have HB := hide (bcall HB.out hb_)
  clear hb_ a0 a1 a2 a3 a4 a5 a6 a7
  obtain ⟨z0, z1, z2, z3, z4, z5, z6, z7⟩ := HRB.out.cells
  obtain ⟨f0, f1, f2, f3, f4, f5, f6, f7⟩ := HRB.out.unfs
  go_wp2
  refine bodyPost_ret (v := .tuple #[.slice A1 L c1, mvv K P S C B T X O]) (by simp [results, Try.results13, go_sem, z0, z1, z2, z3, z4, z5, z6, z7]) rfl ?_
  exact rend_fin0 (w2 := v0_) HCN.out HLN.out ⟨hcc1, hcc2⟩ HNEN.out HNW.out HB.out
set_option maxRecDepth 100000 in
set_option maxHeartbeats 4000000 in
theorem rstep_2 (p s c b t x : Int) (v : Value) (m : List Int) (w : World) (h : Cells w v m) (m' : List Int) (hm : m'.length = m.length) (K P S C B T X O : Int)
    (hcall : ∀ (v : Value) (w : World), Cells w v m → Calls Try.prog 47 #[v, mvv 2 p s c b t x 0] w (REnd v w m' ⟨K, P, S, C, B, T, X, O⟩)) :
    Calls Try.prog 13 #[v, mvv 2 p s c b t x 0] w (REnd v w m' ⟨K, P, S, C, B, T, X, O⟩) := by
  obtain ⟨w1, e1, hb1, hs1, M1, R1⟩ := rbox_two w 2 p s c b t x 0
  have HE := hide e1
  obtain ⟨A0, c0, rfl, hc01, hc02⟩ := cells_form' h
  have HNE0 := hide (in_ne h)
  obtain ⟨L, hL⟩ : ∃ L, m.length = L := ⟨_, rfl⟩
  have HC := hide (h.below hb1)
  have HMB := hide M1
  have HRB := hide R1
  have HB := hide hb1
  obtain ⟨a0, a1, a2, a3, a4, a5, a6, a7⟩ := M1.cells
  have HLN := hide (hm.trans hL)
  rw [hL] at HC HNE0 hc01 ⊢
  have HK := hide hcall
  clear e1 h hs1 M1 R1 hb1 hL hm hcall
  go_enter Try.func13, Try.ntmps13
  go_wp2_with fail
  rw [HE.out]
  (with_reducible refine (HK.out _ _ HC.out).mono ?_)
  rintro e v0_ ⟨A1, c1, rfl, ⟨hcc1, hcc2⟩, hCN, hnew, hb_⟩
  rw [HLN.out] at hCN hnew hcc1 ⊢
  rw [show mv ⟨K, P, S, C, B, T, X, O⟩ = mvv K P S C B T X O from rfl]
  have HCN := hide hCN
  have HNEN := hide (put_ne HNE0.out hnew HRB.out.lt)
  have HNW := hide (put_new hnew HRB.out.lt)
  clear hCN hnew
  have HRB := hide (HRB.out.below hb_)
  have HB := hide (bcall HB.out hb_)
  clear hb_ a0 a1 a2 a3 a4 a5 a6 a7
  obtain ⟨z0, z1, z2, z3, z4, z5, z6, z7⟩ := HRB.out.cells
  obtain ⟨f0, f1, f2, f3, f4, f5, f6, f7⟩ := HRB.out.unfs
  go_wp2
  refine bodyPost_ret (v := .tuple #[.slice A1 L c1, mvv K P S C B T X O]) (by simp [results, Try.results13, go_sem, z0, z1, z2, z3, z4, z5, z6, z7]) rfl ?_
  exact rend_fin0 (w2 := v0_) HCN.out HLN.out ⟨hcc1, hcc2⟩ HNEN.out HNW.out HB.out
set_option maxRecDepth 100000 in
set_option maxHeartbeats 4000000 in
theorem rstep_3 (p s c b t x : Int) (v : Value) (m : List Int) (w : World) (h : Cells w v m) (m' : List Int) (hm : m'.length = m.length) (K P S C B T X O : Int)
    (hcall : ∀ (v : Value) (w : World), Cells w v m → Calls Try.prog 48 #[v, mvv 3 p s c b t x 0] w (REnd v w m' ⟨K, P, S, C, B, T, X, O⟩)) :
    Calls Try.prog 13 #[v, mvv 3 p s c b t x 0] w (REnd v w m' ⟨K, P, S, C, B, T, X, O⟩) := by
  obtain ⟨w1, e1, hb1, hs1, M1, R1⟩ := rbox_two w 3 p s c b t x 0
  have HE := hide e1
  obtain ⟨A0, c0, rfl, hc01, hc02⟩ := cells_form' h
  have HNE0 := hide (in_ne h)
  obtain ⟨L, hL⟩ : ∃ L, m.length = L := ⟨_, rfl⟩
  have HC := hide (h.below hb1)
  have HMB := hide M1
  have HRB := hide R1
  have HB := hide hb1
  obtain ⟨a0, a1, a2, a3, a4, a5, a6, a7⟩ := M1.cells
  have HLN := hide (hm.trans hL)
  rw [hL] at HC HNE0 hc01 ⊢
  have HK := hide hcall
  clear e1 h hs1 M1 R1 hb1 hL hm hcall
  go_enter Try.func13, Try.ntmps13
  go_wp2_with fail
  rw [HE.out]
  (with_reducible refine (HK.out _ _ HC.out).mono ?_)
  rintro e v0_ ⟨A1, c1, rfl, ⟨hcc1, hcc2⟩, hCN, hnew, hb_⟩
  rw [HLN.out] at hCN hnew hcc1 ⊢
  rw [show mv ⟨K, P, S, C, B, T, X, O⟩ = mvv K P S C B T X O from rfl]
  have HCN := hide hCN
  have HNEN := hide (put_ne HNE0.out hnew HRB.out.lt)
  have HNW := hide (put_new hnew HRB.out.lt)
  clear hCN hnew
  have HRB := hide (HRB.out.below hb_)
  have HB := hide (bcall HB.out hb_)
  clear hb_ a0 a1 a2 a3 a4 a5 a6 a7
  obtain ⟨z0, z1, z2, z3, z4, z5, z6, z7⟩ := HRB.out.cells
  obtain ⟨f0, f1, f2, f3, f4, f5, f6, f7⟩ := HRB.out.unfs
  go_wp2
  refine bodyPost_ret (v := .tuple #[.slice A1 L c1, mvv K P S C B T X O]) (by simp [results, Try.results13, go_sem, z0, z1, z2, z3, z4, z5, z6, z7]) rfl ?_
  exact rend_fin0 (w2 := v0_) HCN.out HLN.out ⟨hcc1, hcc2⟩ HNEN.out HNW.out HB.out
set_option maxRecDepth 100000 in
set_option maxHeartbeats 4000000 in
theorem rstep_k (k p s c b t x : Int) (v : Value) (m : List Int) (w : World) (h : Cells w v m) (q1 : (k == 1) = false) (q2 : (k == 2) = false) (q3 : (k == 3) = false) :
    Calls Try.prog 13 #[v, mvv k p s c b t x 0] w (REnd v w m ⟨k, p, s, c, b, t, x, 0⟩) := by
  obtain ⟨w1, e1, hb1, hs1, M1, R1⟩ := rbox_two w k p s c b t x 0
  have HE := hide e1
  obtain ⟨A0, c0, rfl, hc01, hc02⟩ := cells_form' h
  have HNE0 := hide (in_ne h)
  obtain ⟨L, hL⟩ : ∃ L, m.length = L := ⟨_, rfl⟩
  have HC := hide (h.below hb1)
  have HMB := hide M1
  have HRB := hide R1
  have HB := hide hb1
  obtain ⟨a0, a1, a2, a3, a4, a5, a6, a7⟩ := M1.cells
  have HLM := hide hL
  rw [hL] at HC HNE0 hc01 ⊢
  clear e1 h hs1 M1 R1 hb1 hL
  go_enter Try.func13, Try.ntmps13
  go_upto_region 10 with (fail)
  rw [HE.out]
  obtain ⟨g0, g1, g2, g3, g4, g5, g6, g7⟩ := HMB.out.unfs
  obtain ⟨z0, z1, z2, z3, z4, z5, z6, z7⟩ := HRB.out.cells
  obtain ⟨f0, f1, f2, f3, f4, f5, f6, f7⟩ := HRB.out.unfs
  go_region
  all_goals
    go_wp2
    refine bodyPost_ret (v := .tuple #[.slice A0 L c0, mvv k p s c b t x 0]) (by simp [results, Try.results13, go_sem, z0, z1, z2, z3, z4, z5, z6, z7]) rfl ?_
    refine rend_fin (w2 := w1) (w9 := w1) HC.out HLM.out ⟨hc01, hc02⟩ (fun h0 y_ hy_ => by have := HNE0.out h0 y_ hy_; omega) (.inl rfl) (fun _ _ => rfl) rfl HB.out
set_option maxRecDepth 100000 in
set_option maxHeartbeats 4000000 in
theorem rstep_u (k p s c b t x u : Int) (v : Value) (m : List Int) (w : World) (h : Cells w v m) (q0 : (u != 0) = true) :
    Calls Try.prog 13 #[v, mvv k p s c b t x u] w (REnd v w m ⟨k, p, s, c, b, t, x, u⟩) := by
  obtain ⟨w1, e1, hb1, hs1, M1, R1⟩ := rbox_two w k p s c b t x u
  have HE := hide e1
  obtain ⟨A0, c0, rfl, hc01, hc02⟩ := cells_form' h
  have HNE0 := hide (in_ne h)
  obtain ⟨L, hL⟩ : ∃ L, m.length = L := ⟨_, rfl⟩
  have HC := hide (h.below hb1)
  have HMB := hide M1
  have HRB := hide R1
  have HB := hide hb1
  obtain ⟨a0, a1, a2, a3, a4, a5, a6, a7⟩ := M1.cells
  have HLM := hide hL
  rw [hL] at HC HNE0 hc01 ⊢
  clear e1 h hs1 M1 R1 hb1 hL
  go_enter Try.func13, Try.ntmps13
  go_upto_region 2 with (fail)
  rw [HE.out]
  obtain ⟨g0, g1, g2, g3, g4, g5, g6, g7⟩ := HMB.out.unfs
  obtain ⟨z0, z1, z2, z3, z4, z5, z6, z7⟩ := HRB.out.cells
  obtain ⟨f0, f1, f2, f3, f4, f5, f6, f7⟩ := HRB.out.unfs
  go_region
  all_goals
    go_wp2
    refine bodyPost_ret (v := .tuple #[.slice A0 L c0, mvv k p s c b t x u]) (by simp [results, Try.results13, go_sem, z0, z1, z2, z3, z4, z5, z6, z7]) rfl ?_
    refine rend_fin (w2 := w1) (w9 := w1) HC.out HLM.out ⟨hc01, hc02⟩ (fun h0 y_ hy_ => by have := HNE0.out h0 y_ hy_; omega) (.inl rfl) (fun _ _ => rfl) rfl HB.out
end Go.Proofs.Ytimjlgglhonhkaa
