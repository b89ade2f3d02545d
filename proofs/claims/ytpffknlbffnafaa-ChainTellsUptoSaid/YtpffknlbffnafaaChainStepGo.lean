/- Layer chain: Step: a deed is done. -/
import Derived.Test.YtpffknlbffnafaaChainStep
import Derived.Test.YtpffknlbffnafaaChainDeeds
import Derived.Deep.Cut
namespace Go.Proofs.Ytpffknlbffnafaa.ch
open Go.RowKit

/-- the method for this kind and place -/
def deedF (k : Int) (j : Nat) : FuncId := if k = 1 then (if j = 0 then 32 else if j = 1 then 33 else 34) else (if j = 0 then 35 else if j = 1 then 36 else 37)
/-- one of the array's rows, and one of that row -/
theorem idx_row (B : Nat) (k : Int) (hk : k = 1 ∨ k = 2) (w : World) : (Instr.index 60 (.agg (dcs B)) (.int .i64 k)).run Try.prog w = .ok (.agg (dks B k)) w := by
  rcases hk with rfl | rfl
  · kernel_rfl
  · kernel_rfl
theorem idx_deed (B : Nat) (k : Int) (j : Nat) (hk : k = 1 ∨ k = 2) (hj : j < 3) (w : World) : (Instr.index 59 (.agg (dks B k)) (.int .i64 j)).run Try.prog w = .ok (mf (deedF k j) B) w := by
  rcases hk with rfl | rfl
  · rcases (show j = 0 ∨ j = 1 ∨ j = 2 by omega) with rfl | rfl | rfl <;> kernel_rfl
  · rcases (show j = 0 ∨ j = 1 ∨ j = 2 by omega) with rfl | rfl | rfl <;> kernel_rfl
theorem step_fin {w w2 w4 w5 : World} {k p s c b t x u : Int} {A : Option Addr} {n : Nat} {m : List Int} (h2 : Below w.heap.size w w2) (h4 : Below w2.heap.size w2 w4) (hs : w2.heap.size ≤ w4.heap.size) (hlt : w.heap.size + 1 < w2.heap.size)
    (hT : Tn w5 w2.heap.size ⟨k, p, s, c, b, t, x, u⟩ (.slice A m.length n) m) (hg : Gn w4 w2.heap.size (.slice A m.length n) w5) :
    StepEnd w m ⟨k, p, s, c, b, t, x, u⟩ (.returned (.tuple #[.slice A m.length n, mvv k p s c b t x u])) (set8 w5 (w.heap.size + 1) k p s c b t x u).drew := by
  have h5 : Below w2.heap.size w2 w5 := h4.grown hg.g hs (fun y hy => by injection hy with hy; omega)
  refine StepEnd.of rfl (cells_drew ?_) (Below.drew ((bcall h2 h5).trans ((set8_below (Below.refl (w.heap.size + 1) w5) (Nat.le_refl _)).mono (by omega)))) (fun y hy => by have := hg.new y hy; omega)
  exact cells_set8 hT.mem fun _ y hy => by have := hg.new y hy; omega

set_option maxRecDepth 100000 in
set_option maxHeartbeats 4000000 in
theorem step_go (k s c b t x : Int) (j : Nat) (v : Value) (m : List Int) (w : World) (h : Cells w v m) (hk : k = 1 ∨ k = 2) (hj : j < 3)
    (hcf : ∀ (xs : Array Value) (wx : World), (callFunc (deedF k j) xs).run Try.prog wx = .ok (.enter (deedF k j) xs) wx)
    (k' p' s' c' b' t' x' u' : Int) (m' : List Int) (hlen : m'.length = m.length)
    (hc : ∀ (w : World) (B : Nat) (v : Value), Tn w B ⟨k, (j : Int) + 1, s, c, b, t, x, 0⟩ v m → Calls Try.prog (deedF k j) #[pt B] w (TPost w B ⟨k', p', s', c', b', t', x', u'⟩ m' (.tuple #[]))) :
    Calls Try.prog 6 #[v, mvv k j s c b t x 0] w (StepEnd w m' ⟨k', p', s', c', b', t', x', u'⟩) := by
  obtain ⟨w1, e1, hb1, hs1, M1, R1⟩ := box_two w k j s c b t x 0
  have HE := hide e1
  have HM := hide (h.below hb1)
  obtain ⟨a0, a1, a2, a3, a4, a5, a6, a7⟩ := M1.cells
  have HS1 := hide hs1
  have HMB := hide M1
  have HRB := hide R1
  have HC := hide hc
  have HLN := hide hlen
  have HVF := hide (cells_form' h)
  have HU := hide (show haltF k j 0 = false by unfold haltF; rcases hk with rfl | rfl <;> simp <;> omega)
  clear e1 h hs1 M1 R1 hc hlen
  obtain ⟨fo, hfo⟩ : ∃ fo, deedF k j = fo := ⟨_, rfl⟩
  have i1 := fun B => idx_row B k hk
  have i2 := fun B => idx_deed B k j hk hj
  rw [hfo] at hcf HC i2
  clear hfo hk
  go_enter Try.func6, Try.ntmps6
  go_wp2_with fail
  rw [HE.out]
  (with_reducible refine (stops_any k j s c b t x 0 _).mono ?_)
  rintro e w2 ⟨rfl, hb2⟩
  rw [HU.out]
  have HB2 := hide (bcall hb1 hb2)
  clear a0 a1 a2 a3 a4 a5 a6 a7
  have HM2 := hide (HMB.out.below hb2)
  have HR2 := hide (HRB.out.below hb2)
  have HC2 := hide (HM.out.below hb2)
  obtain ⟨a0, a1, a2, a3, a4, a5, a6, a7⟩ := HM2.out.cells
  have HB1 := hide hb1
  clear hb2 hb1
  obtain ⟨A1, c1, rfl, hc1, hc2⟩ := HVF.out
  obtain ⟨w4, e4⟩ : ∃ w4, w2.alloc (.cells #[.int .i64 k, .int .i64 j, .int .i64 s, .int .i64 c, .int .u64 b, .int .i64 t, .int .i64 x, .int .i64 0, .slice A1 m.length c1] 58) = w4 := ⟨_, rfl⟩
  have hb4 : Below w2.heap.size w2 w4 := by rw [← e4]; exact bal _ _
  have hA1 : ∀ y, (Value.slice A1 m.length c1).ownBlock = some y → 0 < m.length → y < w2.heap.size := by
    intro y hy h0
    obtain ⟨b0, off0, e0, hlt, -⟩ := cells_at HC2.out h0
    subst e0
    simp only [Value.ownBlock, Option.some.injEq] at hy
    omega
  have hT4 : Tn w4 w2.heap.size ⟨k, (j : Int), s, c, b, t, x, 0⟩ (.slice A1 m.length c1) m :=
    ⟨by rw [← e4]; exact heap_alloc_new w2 _, HC2.out.below hb4, fun h0 y hy e => by have := hA1 y hy h0; omega⟩
  have HT4 := hide hT4
  have HB4 := hide hb4
  have HE4 := hide e4
  have HS4 := hide (show w4.heap.size = w2.heap.size + 1 by rw [← e4]; simp)
  have HM4 := hide (HM2.out.below hb4)
  have HR4 := hide (HR2.out.below hb4)
  clear hT4 hb4 e4 hA1
  go_upto_region 4 with (fail)
  rw [HE4.out]
  clear a0 a1 a2 a3 a4 a5 a6 a7
  obtain ⟨a0, a1, a2, a3, a4, a5, a6, a7⟩ := HM4.out.cells
  go_region_with (first
    | (go_at_call 26; (with_reducible refine (deeds_any w2.heap.size _).mono ?_); rintro e w5 ⟨rfl, hb5d⟩; have hb5 := undrew hb5d; have HM5 := hide (HM4.out.below hb5); have HB5 := hide hb5; clear hb5 hb5d a0 a1 a2 a3 a4 a5 a6 a7; obtain ⟨a0, a1, a2, a3, a4, a5, a6, a7⟩ := HM5.out.cells))
  all_goals
    have hT5 := HT4.out.below HB5.out
    have c1 := hT5.c1
    have f1 := hT5.unf 1
    have HT6 := hide (hT5.p1 ((j : Int) + 1))
    have HB6 := hide ((bcall HB4.out HB5.out).setCell (p := ⟨w2.heap.size, 1, none⟩) (Nat.le_refl _) (.int .i64 ((j : Int) + 1)))
    have HS6 := hide (show w2.heap.size < (w5.setCell ⟨w2.heap.size, 1, none⟩ (.int .i64 ((j : Int) + 1))).heap.size by have := HB5.out.size; have := HS4.out; simp [World.setCell]; omega)
    have HR6 := hide (HR4.out.below HB5.out)
    clear hT5
    go_wp2_with fail
    (with_reducible refine (HC.out _ w2.heap.size _ HT6.out).mono ?_)
    rintro e w6 ⟨v', rfl, hT7, hg⟩
    obtain ⟨A5, c5, rfl, hd1, hd2⟩ := cells_form' hT7.mem
    have t0 := hT7.c0
    have t1 := hT7.c1
    have t2 := hT7.c2
    have t3 := hT7.c3
    have t4 := hT7.c4
    have t5 := hT7.c5
    have t6 := hT7.c6
    have t7 := hT7.c7
    have t8 : w6.cell? ⟨w2.heap.size, 8, none⟩ = some (.slice A5 m'.length c5) := hT7.cell 8
    have hlt2 : w.heap.size + 1 < w2.heap.size := HR2.out.lt
    have hR7 : Mb w6 (w.heap.size + 1) ⟨0, 0, 0, 0, 0, 0, 0, 0⟩ := ⟨(hg.g.block (w.heap.size + 1) (by have := HS6.out; omega) (by simp; omega)).trans ((Below.heap_setCell w5 ⟨w2.heap.size, 1, none⟩ _ (w.heap.size + 1) (by simp; omega)).trans HR6.out.blk)⟩
    obtain ⟨z0, z1, z2, z3, z4, z5, z6, z7⟩ := hR7.cells
    obtain ⟨f0, f1, f2, f3, f4, f5, f6, f7⟩ := hR7.unfs
    have HT7 := hide hT7
    have HG := hide hg
    have hne : w.heap.size + 1 ≠ w2.heap.size := by omega
    clear hT7 hg hR7 c1
    go_wp2
    go_region
    all_goals
      go_wp2
      refine bodyPost_ret (v := .tuple #[.slice A5 m'.length c5, mvv k' p' s' c' b' t' x' u']) (by simp [results, Try.results6, go_sem, z0, z1, z2, z3, z4, z5, z6, z7]) rfl ?_
      exact step_fin HB2.out HB6.out (by have := HS6.out; omega) hlt2 HT7.out HG.out
end Go.Proofs.Ytpffknlbffnafaa.ch
