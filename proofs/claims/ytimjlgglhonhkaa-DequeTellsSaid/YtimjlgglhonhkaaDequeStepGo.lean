/- Layer deque: Step: a deed is done. -/
import Derived.Test.YtimjlgglhonhkaaDequeStep
import Derived.Deep.Cut
namespace Go.Proofs.Ytimjlgglhonhkaa
open Go.RowKit

theorem tl_len (k : Int) : (tl k).length ≤ 7 := by
  unfold tl
  split
  · decide
  · split
    · decide
    · split
      · decide
      · decide

theorem step_fin {w w2 w4 w5 : World} {k p s c b t x u : Int} {A : Option Addr} {n : Nat} {m : List Int} (h2 : Below w.heap.size w w2) (h4 : Below w2.heap.size w2 w4) (hs : w2.heap.size ≤ w4.heap.size) (hlt : w.heap.size + 1 < w2.heap.size)
    (hT : Tn w5 w2.heap.size ⟨k, p, s, c, b, t, x, u⟩ (.slice A m.length n) m) (hg : Gn w4 w2.heap.size (.slice A m.length n) w5) :
    StepEnd w m ⟨k, p, s, c, b, t, x, u⟩ (.returned (.tuple #[.slice A m.length n, mvv k p s c b t x u]))
      ((((((((w5.setCell ⟨w.heap.size + 1, 0, none⟩ (.int .i64 k)).setCell ⟨w.heap.size + 1, 1, none⟩ (.int .i64 p)).setCell ⟨w.heap.size + 1, 2, none⟩ (.int .i64 s)).setCell ⟨w.heap.size + 1, 3, none⟩ (.int .i64 c)).setCell ⟨w.heap.size + 1, 4, none⟩ (.int .u64 b)).setCell ⟨w.heap.size + 1, 5, none⟩ (.int .u64 t)).setCell ⟨w.heap.size + 1, 6, none⟩ (.int .i64 x)).setCell ⟨w.heap.size + 1, 7, none⟩ (.int .i64 u)).drew := by
  have h5 : Below w2.heap.size w2 w5 := h4.grown hg.g hs (fun y hy => by injection hy with hy; omega)
  refine StepEnd.of rfl (cells_drew ?_) (Below.drew ((bcall h2 h5).trans ((below_set8 (Below.refl (w.heap.size + 1) w5) (Nat.le_refl _) _ _ _ _ _ _ _ _).mono (by omega)))) (fun y hy => by have := hg.new y hy; omega)
  refine cells_block hT.mem (by simp [World.setCell]) fun _ y hy _ => ?_
  have := hg.new y hy
  simp only [World.setCell, Array.getElem?_modify]
  rw [if_neg (by omega), if_neg (by omega), if_neg (by omega), if_neg (by omega), if_neg (by omega), if_neg (by omega), if_neg (by omega), if_neg (by omega)]

set_option maxRecDepth 100000 in
set_option maxHeartbeats 4000000 in
theorem step_go (k s c b t x : Int) (j : Nat) (fo : FuncId) (v : Value) (m : List Int) (w : World) (h : Cells w v m) (_hbig : m.length * 8 ≤ 140737488351232) (hf : (tl k)[j]? = some fo)
    (hcf : ∀ (xs : Array Value) (wx : World), (callFunc fo xs).run Try.prog wx = .ok (.enter fo xs) wx)
    (k' p' s' c' b' t' x' u' : Int) (m' : List Int) (hlen : m'.length = m.length)
    (hc : ∀ (w : World) (B : Nat) (v : Value), Tn w B ⟨k, (j : Int) + 1, s, c, b, t, x, 0⟩ v m → Calls Try.prog fo #[pt B] w (TPost w B ⟨k', p', s', c', b', t', x', u'⟩ m' (.tuple #[]))) :
    Calls Try.prog 12 #[v, mvv k j s c b t x 0] w (StepEnd w m' ⟨k', p', s', c', b', t', x', u'⟩) := by
  obtain ⟨w1, e1, hb1, hs1, M1, R1⟩ := box_two w k j s c b t x 0
  have HE := hide e1
  have HM := hide (h.below hb1)
  obtain ⟨a0, a1, a2, a3, a4, a5, a6, a7⟩ := M1.cells
  have HS1 := hide hs1
  have HMB := hide M1
  have HRB := hide R1
  have HF := hide hf
  have HC := hide hc
  have HLN := hide hlen
  have HVF := hide (cells_form' h)
  have hjl : j < (tl k).length := (List.getElem?_eq_some_iff.1 hf).1
  have hj7 := tl_len k
  clear e1 h hs1 M1 R1 hf hc hlen
  go_enter Try.func12, Try.ntmps12
  go_wp2_with fail
  rw [HE.out]
  (with_reducible refine (turns_any k _).mono ?_)
  rintro e w2 ⟨A, cc, rfl, hl1, hl2, hF, hb2⟩
  have HB2 := hide (bcall hb1 hb2)
  clear a0 a1 a2 a3 a4 a5 a6 a7
  obtain ⟨g, off, rfl, hg, hcell⟩ : ∃ g off, A = some ⟨g, off, none⟩ ∧ g < w2.heap.size ∧ w2.cell? ⟨g, off + j, none⟩ = some (.func (.func fo) #[] #[]) := by
    obtain ⟨A', c', e0, h1, h2, h3⟩ := id hF
    injection e0 with e1 e2 e3
    subst e1
    obtain ⟨g, off, rfl, hb, hc⟩ := h3 (by omega)
    exact ⟨g, off, rfl, hb, by simpa using hc j fo HF.out 0 _ rfl⟩
  obtain ⟨L, hL⟩ : ∃ L, (tl k).length = L := ⟨_, rfl⟩
  rw [hL] at hl1 hjl hj7
  rw [hL]
  have HM2 := hide (HMB.out.below hb2)
  have HR2 := hide (HRB.out.below hb2)
  have HC2 := hide (HM.out.below hb2)
  obtain ⟨a0, a1, a2, a3, a4, a5, a6, a7⟩ := HM2.out.cells
  have HB1 := hide hb1
  clear hF hL hb2 hb1
  have d0 : decide ((j : Int) < 0) = false := decide_eq_false (by omega)
  have d1 : decide (L ≤ j) = false := decide_eq_false (by omega)
  obtain ⟨A1, c1, rfl, hc1, hc2⟩ := HVF.out
  obtain ⟨w4, e4⟩ : ∃ w4, w2.alloc (.cells #[.int .i64 k, .int .i64 ((j : Int) + 1), .int .i64 s, .int .i64 c, .int .u64 b, .int .u64 t, .int .i64 x, .int .i64 0, .slice A1 m.length c1] 83) = w4 := ⟨_, rfl⟩
  have hb4 : Below w2.heap.size w2 w4 := by rw [← e4]; exact bal _ _
  have hA1 : ∀ y, (Value.slice A1 m.length c1).ownBlock = some y → 0 < m.length → y < w2.heap.size := by
    intro y hy h0
    obtain ⟨b0, off0, e0, hlt, -⟩ := cells_at HC2.out h0
    subst e0
    simp only [Value.ownBlock, Option.some.injEq] at hy
    omega
  have hT4 : Tn w4 w2.heap.size ⟨k, (j : Int) + 1, s, c, b, t, x, 0⟩ (.slice A1 m.length c1) m :=
    ⟨by rw [← e4]; exact heap_alloc_new w2 _, HC2.out.below hb4, fun h0 y hy e => by have := hA1 y hy h0; omega⟩
  have HT4 := hide hT4
  have HB4 := hide hb4
  have HE4 := hide e4
  have HS4 := hide (show w4.heap.size = w2.heap.size + 1 by rw [← e4]; simp)
  have HCL := hide (keepc hb4 hcell)
  have HA := hide (keepc hb4 a1)
  clear hT4 hb4 e4 hA1
  go_upto_region 6 with (fail)
  rw [HE4.out]
  clear a0 a1 a2 a3 a4 a5 a6 a7 hcell
  have a1 := HA.out
  have hcell := HCL.out
  go_wp2_with fail
  (with_reducible refine (HC.out w4 w2.heap.size _ HT4.out).mono ?_)
  rintro e w5 ⟨v', rfl, hT5, hg⟩
  obtain ⟨A5, c5, rfl, hd1, hd2⟩ := cells_form' hT5.mem
  have t0 := hT5.c0
  have t1 := hT5.c1
  have t2 := hT5.c2
  have t3 := hT5.c3
  have t4 := hT5.c4
  have t5 := hT5.c5
  have t6 := hT5.c6
  have t7 := hT5.c7
  have t8 : w5.cell? ⟨w2.heap.size, 8, none⟩ = some (.slice A5 m'.length c5) := hT5.cell 8
  have hlt2 : w.heap.size + 1 < w2.heap.size := HR2.out.lt
  have hR5 : Mb w5 (w.heap.size + 1) ⟨0, 0, 0, 0, 0, 0, 0, 0⟩ := ⟨(hg.g.block (w.heap.size + 1) (by have := HS4.out; omega) (by simp; omega)).trans (HR2.out.below HB4.out).blk⟩
  obtain ⟨z0, z1, z2, z3, z4, z5, z6, z7⟩ := hR5.cells
  obtain ⟨f0, f1, f2, f3, f4, f5, f6, f7⟩ := hR5.unfs
  have HT5 := hide hT5
  have HG := hide hg
  have hne : w.heap.size + 1 ≠ w2.heap.size := by omega
  clear hT5 hg hR5
  go_wp2
  go_region
  all_goals
    go_wp2
    refine bodyPost_ret (v := .tuple #[.slice A5 m'.length c5, mvv k' p' s' c' b' t' x' u']) (by simp [results, Try.results12, go_sem, z0, z1, z2, z3, z4, z5, z6, z7]) rfl ?_
    exact step_fin HB2.out HB4.out (by have := HS4.out; omega) hlt2 HT5.out HG.out
end Go.Proofs.Ytimjlgglhonhkaa
