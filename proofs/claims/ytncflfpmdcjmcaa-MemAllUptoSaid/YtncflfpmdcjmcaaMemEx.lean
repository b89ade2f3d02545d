/- Layer mem: the chapter's examples come out so. -/
import Derived.Test.YtncflfpmdcjmcaaMemUse
namespace Go.Proofs.Ytncflfpmdcjmcaa
open Go.RowKit

set_option maxRecDepth 100000 in
set_option maxHeartbeats 8000000 in
theorem examples_any (w : World) : Calls Try.prog 9 #[] w fun e w' => e = .returned (.bool true) ∧ Below w.heap.size w w' := by
  have hB : Below w.heap.size w w := Below.refl _ _
  obtain ⟨w1, e1, hb1, G0⟩ := lit_cells (w := w) [5, 6] 2 rfl (by decide)
  have HE1 := hide (show w.alloc (.cells #[.int .u64 5, .int .u64 6] 24) = w1 from e1)
  have y0 : w1.cell? ⟨w.heap.size, 0, none⟩ = some (.int .u64 5) := by rw [← e1]; exact row_new w [.int .u64 5, .int .u64 6] 24 0 _ rfl
  have y1 : w1.cell? ⟨w.heap.size, 1, none⟩ = some (.int .u64 6) := by rw [← e1]; exact row_new w [.int .u64 5, .int .u64 6] 24 1 _ rfl
  have G0 := hide G0
  clear e1
  have hB := bcall hB hb1
  go_enter Try.func9, Try.ntmps9
  go_wp2_with fail
  rw [HE1.out]
  (with_reducible refine (Do_c _ [5, 6] 3 0 5 7 _ G0.out (by decide) [7, 6] 5 true (rfl) (rfl) (rfl) 2 (rfl)).mono ?_)
  rintro e w0_ ⟨A0_, c0_, rfl, q0_, G1, hb0_⟩
  have y0 := keepc hb0_ y0
  have y1 := keepc hb0_ y1
  have G0 := hide (G0.out.below hb0_)
  have hB := bcall hB hb0_
  have G1 := hide G1
  go_wp2_with fail
  (with_reducible refine (Do_c _ [5, 6] 3 0 4 7 _ G0.out (by decide) [5, 6] 5 false (rfl) (rfl) (rfl) 2 (rfl)).mono ?_)
  rintro e w1_ ⟨A1_, c1_, rfl, q1_, G2, hb1_⟩
  have y0 := keepc hb1_ y0
  have y1 := keepc hb1_ y1
  have G0 := hide (G0.out.below hb1_)
  have G1 := hide (G1.out.below hb1_)
  have hB := bcall hB hb1_
  have G2 := hide G2
  go_wp2_with fail
  (with_reducible refine (Do_c _ [5, 6] 4 1 2 0 _ G0.out (by decide) [5, 8] 6 true (rfl) (rfl) (rfl) 2 (rfl)).mono ?_)
  rintro e w2_ ⟨A2_, c2_, rfl, q2_, G3, hb2_⟩
  have y0 := keepc hb2_ y0
  have y1 := keepc hb2_ y1
  have G0 := hide (G0.out.below hb2_)
  have G1 := hide (G1.out.below hb2_)
  have G2 := hide (G2.out.below hb2_)
  have hB := bcall hB hb2_
  have G3 := hide G3
  go_wp2_with fail
  (with_reducible refine (Do_c _ [5, 6] 1 2 0 0 _ G0.out (by decide) [5, 6] 0 false (rfl) (rfl) (rfl) 2 (rfl)).mono ?_)
  rintro e w3_ ⟨A3_, c3_, rfl, q3_, G4, hb3_⟩
  have y0 := keepc hb3_ y0
  have y1 := keepc hb3_ y1
  have G0 := hide (G0.out.below hb3_)
  have G1 := hide (G1.out.below hb3_)
  have G2 := hide (G2.out.below hb3_)
  have G3 := hide (G3.out.below hb3_)
  have hB := bcall hB hb3_
  have G4 := hide G4
  obtain ⟨w9, e9, hb9, D0⟩ := lit_deeds (w := w3_) [⟨2, 0, 1, 0⟩, ⟨1, 0, 0, 0⟩, ⟨9, 0, 0, 0⟩] 3 rfl (by decide)
  have HE9 := hide (show w3_.alloc (.cells #[.int .i64 2, .int .i64 0, .int .u64 1, .int .u64 0, .int .i64 1, .int .i64 0, .int .u64 0, .int .u64 0, .int .i64 9, .int .i64 0, .int .u64 0, .int .u64 0] 26) = w9 from e9)
  have D0 := hide D0
  clear e9
  have y0 := keepc hb9 y0
  have y1 := keepc hb9 y1
  have G0 := hide (G0.out.below hb9)
  have G1 := hide (G1.out.below hb9)
  have G2 := hide (G2.out.below hb9)
  have G3 := hide (G3.out.below hb9)
  have G4 := hide (G4.out.below hb9)
  have hB := bcall hB hb9
  go_wp2_with fail
  rw [HE9.out]
  (with_reducible refine (All_c _ _ [5, 6] [⟨2, 0, 1, 0⟩, ⟨1, 0, 0, 0⟩, ⟨9, 0, 0, 0⟩] _ G0.out D0.out (by decide) (by decide) [1, 6] [5, 1, 0] 2 (rfl) (rfl) (rfl) 2 3 (rfl) (rfl)).mono ?_)
  rintro e w4_ ⟨A4_, c4_, H4_, d4_, rfl, q4_, z4_, G5, G6, hb4_⟩
  have y0 := keepc hb4_ y0
  have y1 := keepc hb4_ y1
  have G0 := hide (G0.out.below hb4_)
  have G1 := hide (G1.out.below hb4_)
  have G2 := hide (G2.out.below hb4_)
  have G3 := hide (G3.out.below hb4_)
  have G4 := hide (G4.out.below hb4_)
  have hB := bcall hB hb4_
  have G5 := hide G5
  have G6 := hide G6
  obtain ⟨r1, o1, rfl, x0, x1⟩ := cells_two G1.out
  obtain ⟨r3, o3, rfl, x2, x3⟩ := cells_two G3.out
  obtain ⟨r5, o5, rfl, x4, x5⟩ := cells_two G5.out
  obtain ⟨r6, o6, rfl, z0, z1, z2⟩ := cells_three G6.out
  go_wp2_with fail
  (with_reducible refine (Same_any _ _ [5, 6] [5, 6] _ G2.out G0.out).mono ?_)
  rintro e w5_ ⟨rfl, hb5_⟩
  have y0 := keepc hb5_ y0
  have y1 := keepc hb5_ y1
  have x0 := keepc hb5_ x0
  have x1 := keepc hb5_ x1
  have x2 := keepc hb5_ x2
  have x3 := keepc hb5_ x3
  have x4 := keepc hb5_ x4
  have x5 := keepc hb5_ x5
  have z0 := keepc hb5_ z0
  have z1 := keepc hb5_ z1
  have z2 := keepc hb5_ z2
  have G0 := hide (G0.out.below hb5_)
  have G1 := hide (G1.out.below hb5_)
  have G2 := hide (G2.out.below hb5_)
  have G3 := hide (G3.out.below hb5_)
  have G4 := hide (G4.out.below hb5_)
  have G5 := hide (G5.out.below hb5_)
  have G6 := hide (G6.out.below hb5_)
  have hB := bcall hB hb5_
  rw [decide_eq_true rfl]
  go_wp2
  go_ret
  exact ⟨rfl, hB⟩
end Go.Proofs.Ytncflfpmdcjmcaa
