/- Layer bag: the chapter's examples come out so. -/
import Derived.Test.YtggfckednjojgaaBagUse
namespace Go.Proofs.Ytggfckednjojgaa
open Go.RowKit

theorem kw_dec (x : Int) : Kw x ↔ (-9223372036854775808 ≤ x ∧ x ≤ 9223372036854775807) := Iff.rfl
instance (x : Int) : Decidable (Kw x) := by unfold Kw; infer_instance
set_option maxRecDepth 100000 in
set_option maxHeartbeats 8000000 in
theorem examples_any (w : World) : Calls Try.prog 9 #[] w fun e w' => e = .returned (.bool true) ∧ Below w.heap.size w w' := by
  have hB : Below w.heap.size w w := Below.refl _ _
  go_enter Try.func9, Try.ntmps9
  obtain ⟨wl0, el0, hbl0, Gb⟩ := lit_ints (w := w) [2, 1, 2] 3 rfl (by decide)
  have HEL0 := hide (show w.alloc (.cells #[.int .i64 2, .int .i64 1, .int .i64 2] 3) = wl0 from el0)
  have hse0 := hide (show wl0.heap.size = w.heap.size + 1 by rw [← el0]; simp)
  have Gb := hide Gb
  clear el0
  have hB := bcall hB hbl0
  obtain ⟨wl1, el1, hbl1, G2⟩ := lit_ints (w := wl0) [2] 1 rfl (by decide)
  have HEL1 := hide (show wl0.alloc (.cells #[.int .i64 2] 3) = wl1 from el1)
  rw [hse0.out] at G2
  have hse1 := hide (show wl1.heap.size = w.heap.size + 1 + 1 by rw [← el1]; simp [hse0.out])
  have G2 := hide G2
  clear el1
  have Gb := hide (Gb.out.below hbl1)
  have hB := bcall hB hbl1
  go_wp2_with fail
  rw [HEL0.out]
  rw [HEL1.out]
  (with_reducible refine (Less_c _ _ [2, 1, 2] [2] _ Gb.out G2.out (allK_of rfl) (allK_of rfl) (by decide) [1, 2] (by decide) true (by decide) 2 (rfl)).mono ?_)
  rintro e w2_ ⟨A2_, c2_, rfl, q2_, Gl, hb2_⟩
  have Gb := hide (Gb.out.below hb2_)
  have G2 := hide (G2.out.below hb2_)
  have hB := bcall hB hb2_
  have Gl := hide Gl
  obtain ⟨wl3, el3, hbl3, G11⟩ := lit_ints (w := w2_) [1, 1] 2 rfl (by decide)
  have HEL3 := hide (show w2_.alloc (.cells #[.int .i64 1, .int .i64 1] 3) = wl3 from el3)
  have hse3 := hide (show wl3.heap.size = w2_.heap.size + 1 by rw [← el3]; simp)
  have G11 := hide G11
  clear el3
  have Gb := hide (Gb.out.below hbl3)
  have G2 := hide (G2.out.below hbl3)
  have Gl := hide (Gl.out.below hbl3)
  have hB := bcall hB hbl3
  go_wp2_with fail
  rw [HEL3.out]
  (with_reducible refine (Less_c _ _ [2, 1, 2] [1, 1] _ Gb.out G11.out (allK_of rfl) (allK_of rfl) (by decide) [] (by decide) false (by decide) 0 (rfl)).mono ?_)
  rintro e w4_ ⟨A4_, c4_, rfl, q4_, Gn, hb4_⟩
  have Gb := hide (Gb.out.below hb4_)
  have G2 := hide (G2.out.below hb4_)
  have Gl := hide (Gl.out.below hb4_)
  have G11 := hide (G11.out.below hb4_)
  have hB := bcall hB hb4_
  have Gn := hide Gn
  obtain ⟨wl5, el5, hbl5, G31⟩ := lit_ints (w := w4_) [3, 1] 2 rfl (by decide)
  have HEL5 := hide (show w4_.alloc (.cells #[.int .i64 3, .int .i64 1] 3) = wl5 from el5)
  have hse5 := hide (show wl5.heap.size = w4_.heap.size + 1 by rw [← el5]; simp)
  have G31 := hide G31
  clear el5
  have Gb := hide (Gb.out.below hbl5)
  have G2 := hide (G2.out.below hbl5)
  have Gl := hide (Gl.out.below hbl5)
  have G11 := hide (G11.out.below hbl5)
  have Gn := hide (Gn.out.below hbl5)
  have hB := bcall hB hbl5
  go_wp2_with fail
  rw [HEL5.out]
  (with_reducible refine (Once_c _ [3, 1] _ G31.out (allK_of rfl) 5 (by decide) true (by decide)).mono ?_)
  rintro e w6_ ⟨rfl, hb6_⟩
  have Gb := hide (Gb.out.below hb6_)
  have G2 := hide (G2.out.below hb6_)
  have Gl := hide (Gl.out.below hb6_)
  have G11 := hide (G11.out.below hb6_)
  have Gn := hide (Gn.out.below hb6_)
  have G31 := hide (G31.out.below hb6_)
  have hB := bcall hB hb6_
  go_wp2_with fail
  (with_reducible refine (Once_c _ [2, 1, 2] _ Gb.out (allK_of rfl) 0 (by decide) false (by decide)).mono ?_)
  rintro e w7_ ⟨rfl, hb7_⟩
  have Gb := hide (Gb.out.below hb7_)
  have G2 := hide (G2.out.below hb7_)
  have Gl := hide (Gl.out.below hb7_)
  have G11 := hide (G11.out.below hb7_)
  have Gn := hide (Gn.out.below hb7_)
  have G31 := hide (G31.out.below hb7_)
  have hB := bcall hB hb7_
  go_wp2_with fail
  (with_reducible refine (Norm_c _ [2, 1, 2] _ Gb.out (allK_of rfl) (by decide) [1, 2, 2] (by decide) 3 (rfl)).mono ?_)
  rintro e w8_ ⟨A8_, c8_, rfl, q8_, Gm, hb8_⟩
  have Gb := hide (Gb.out.below hb8_)
  have G2 := hide (G2.out.below hb8_)
  have Gl := hide (Gl.out.below hb8_)
  have G11 := hide (G11.out.below hb8_)
  have Gn := hide (Gn.out.below hb8_)
  have G31 := hide (G31.out.below hb8_)
  have hB := bcall hB hb8_
  have Gm := hide Gm
  obtain ⟨wl9, el9, hbl9, G122⟩ := lit_ints (w := w8_) [1, 2, 2] 3 rfl (by decide)
  have HEL9 := hide (show w8_.alloc (.cells #[.int .i64 1, .int .i64 2, .int .i64 2] 3) = wl9 from el9)
  have hse9 := hide (show wl9.heap.size = w8_.heap.size + 1 by rw [← el9]; simp)
  have G122 := hide G122
  clear el9
  have Gb := hide (Gb.out.below hbl9)
  have G2 := hide (G2.out.below hbl9)
  have Gl := hide (Gl.out.below hbl9)
  have G11 := hide (G11.out.below hbl9)
  have Gn := hide (Gn.out.below hbl9)
  have G31 := hide (G31.out.below hbl9)
  have Gm := hide (Gm.out.below hbl9)
  have hB := bcall hB hbl9
  go_wp2_with fail
  rw [HEL9.out]
  (with_reducible refine (Same_c _ _ [1, 2, 2] [1, 2, 2] _ Gm.out G122.out (allK_of rfl) (allK_of rfl) (by decide) (by decide) true (by decide)).mono ?_)
  rintro e w10_ ⟨rfl, hb10_⟩
  have Gb := hide (Gb.out.below hb10_)
  have G2 := hide (G2.out.below hb10_)
  have Gl := hide (Gl.out.below hb10_)
  have G11 := hide (G11.out.below hb10_)
  have Gn := hide (Gn.out.below hb10_)
  have G31 := hide (G31.out.below hb10_)
  have Gm := hide (Gm.out.below hb10_)
  have G122 := hide (G122.out.below hb10_)
  have hB := bcall hB hb10_
  obtain ⟨wl11, el11, hbl11, G12⟩ := lit_ints (w := w10_) [1, 2] 2 rfl (by decide)
  have HEL11 := hide (show w10_.alloc (.cells #[.int .i64 1, .int .i64 2] 3) = wl11 from el11)
  have hse11 := hide (show wl11.heap.size = w10_.heap.size + 1 by rw [← el11]; simp)
  have G12 := hide G12
  clear el11
  have Gb := hide (Gb.out.below hbl11)
  have G2 := hide (G2.out.below hbl11)
  have Gl := hide (Gl.out.below hbl11)
  have G11 := hide (G11.out.below hbl11)
  have Gn := hide (Gn.out.below hbl11)
  have G31 := hide (G31.out.below hbl11)
  have Gm := hide (Gm.out.below hbl11)
  have G122 := hide (G122.out.below hbl11)
  have hB := bcall hB hbl11
  go_wp2_with fail
  rw [HEL11.out]
  (with_reducible refine (Same_c _ _ [1, 2] [1, 2] _ Gl.out G12.out (allK_of rfl) (allK_of rfl) (by decide) (by decide) true (by decide)).mono ?_)
  rintro e w12_ ⟨rfl, hb12_⟩
  have Gb := hide (Gb.out.below hb12_)
  have G2 := hide (G2.out.below hb12_)
  have Gl := hide (Gl.out.below hb12_)
  have G11 := hide (G11.out.below hb12_)
  have Gn := hide (Gn.out.below hb12_)
  have G31 := hide (G31.out.below hb12_)
  have Gm := hide (Gm.out.below hb12_)
  have G122 := hide (G122.out.below hb12_)
  have G12 := hide (G12.out.below hb12_)
  have hB := bcall hB hb12_
  go_wp2_with fail
  (with_reducible refine (Count_c _ [2, 1, 2] 2 _ Gb.out (allK_of rfl) (by decide) (by decide) 2 (by decide)).mono ?_)
  rintro e w13_ ⟨rfl, hb13_⟩
  have Gb := hide (Gb.out.below hb13_)
  have G2 := hide (G2.out.below hb13_)
  have Gl := hide (Gl.out.below hb13_)
  have G11 := hide (G11.out.below hb13_)
  have Gn := hide (Gn.out.below hb13_)
  have G31 := hide (G31.out.below hb13_)
  have Gm := hide (Gm.out.below hb13_)
  have G122 := hide (G122.out.below hb13_)
  have G12 := hide (G12.out.below hb13_)
  have hB := bcall hB hb13_
  go_wp2_with fail
  (with_reducible refine (Add_c _ [2, 1, 2] 2 (-5) _ Gb.out (allK_of rfl) (by decide) (by decide) (by decide) [1] (by decide) (by decide) 1 (rfl)).mono ?_)
  rintro e w14_ ⟨A14_, c14_, rfl, q14_, Gd, hb14_⟩
  have Gb := hide (Gb.out.below hb14_)
  have G2 := hide (G2.out.below hb14_)
  have Gl := hide (Gl.out.below hb14_)
  have G11 := hide (G11.out.below hb14_)
  have Gn := hide (Gn.out.below hb14_)
  have G31 := hide (G31.out.below hb14_)
  have Gm := hide (Gm.out.below hb14_)
  have G122 := hide (G122.out.below hb14_)
  have G12 := hide (G12.out.below hb14_)
  have hB := bcall hB hb14_
  have Gd := hide Gd
  go_wp2_with fail
  (with_reducible refine (Add_c _ [2, 1, 2] 7 2 _ Gb.out (allK_of rfl) (by decide) (by decide) (by decide) [1, 2, 2, 7, 7] (by decide) (by decide) 5 (rfl)).mono ?_)
  rintro e w15_ ⟨A15_, c15_, rfl, q15_, Ge, hb15_⟩
  have Gb := hide (Gb.out.below hb15_)
  have G2 := hide (G2.out.below hb15_)
  have Gl := hide (Gl.out.below hb15_)
  have G11 := hide (G11.out.below hb15_)
  have Gn := hide (Gn.out.below hb15_)
  have G31 := hide (G31.out.below hb15_)
  have Gm := hide (Gm.out.below hb15_)
  have G122 := hide (G122.out.below hb15_)
  have G12 := hide (G12.out.below hb15_)
  have Gd := hide (Gd.out.below hb15_)
  have hB := bcall hB hb15_
  have Ge := hide Ge
  go_wp2_with fail
  (with_reducible refine (Sum_c _ _ [2, 1, 2] [2, 1, 2] _ Gb.out Gb.out (allK_of rfl) (allK_of rfl) (by decide) [1, 1, 2, 2, 2, 2] (by decide) 6 (rfl)).mono ?_)
  rintro e w16_ ⟨A16_, c16_, rfl, q16_, Gs, hb16_⟩
  have Gb := hide (Gb.out.below hb16_)
  have G2 := hide (G2.out.below hb16_)
  have Gl := hide (Gl.out.below hb16_)
  have G11 := hide (G11.out.below hb16_)
  have Gn := hide (Gn.out.below hb16_)
  have G31 := hide (G31.out.below hb16_)
  have Gm := hide (Gm.out.below hb16_)
  have G122 := hide (G122.out.below hb16_)
  have G12 := hide (G12.out.below hb16_)
  have Gd := hide (Gd.out.below hb16_)
  have Ge := hide (Ge.out.below hb16_)
  have hB := bcall hB hb16_
  have Gs := hide Gs
  obtain ⟨wl17, el17, hbl17, G6⟩ := lit_ints (w := w16_) [1, 1, 2, 2, 2, 2] 6 rfl (by decide)
  have HEL17 := hide (show w16_.alloc (.cells #[.int .i64 1, .int .i64 1, .int .i64 2, .int .i64 2, .int .i64 2, .int .i64 2] 3) = wl17 from el17)
  have hse17 := hide (show wl17.heap.size = w16_.heap.size + 1 by rw [← el17]; simp)
  have G6 := hide G6
  clear el17
  have Gb := hide (Gb.out.below hbl17)
  have G2 := hide (G2.out.below hbl17)
  have Gl := hide (Gl.out.below hbl17)
  have G11 := hide (G11.out.below hbl17)
  have Gn := hide (Gn.out.below hbl17)
  have G31 := hide (G31.out.below hbl17)
  have Gm := hide (Gm.out.below hbl17)
  have G122 := hide (G122.out.below hbl17)
  have G12 := hide (G12.out.below hbl17)
  have Gd := hide (Gd.out.below hbl17)
  have Ge := hide (Ge.out.below hbl17)
  have Gs := hide (Gs.out.below hbl17)
  have hB := bcall hB hbl17
  go_wp2_with fail
  rw [HEL17.out]
  (with_reducible refine (Same_c _ _ [1, 1, 2, 2, 2, 2] [1, 1, 2, 2, 2, 2] _ Gs.out G6.out (allK_of rfl) (allK_of rfl) (by decide) (by decide) true (by decide)).mono ?_)
  rintro e w18_ ⟨rfl, hb18_⟩
  have Gb := hide (Gb.out.below hb18_)
  have G2 := hide (G2.out.below hb18_)
  have Gl := hide (Gl.out.below hb18_)
  have G11 := hide (G11.out.below hb18_)
  have Gn := hide (Gn.out.below hb18_)
  have G31 := hide (G31.out.below hb18_)
  have Gm := hide (Gm.out.below hb18_)
  have G122 := hide (G122.out.below hb18_)
  have G12 := hide (G12.out.below hb18_)
  have Gd := hide (Gd.out.below hb18_)
  have Ge := hide (Ge.out.below hb18_)
  have Gs := hide (Gs.out.below hb18_)
  have G6 := hide (G6.out.below hb18_)
  have hB := bcall hB hb18_
  go_wp2_with fail
  (with_reducible refine (Same_c _ _ [2, 1, 2] [1, 2] _ Gb.out Gl.out (allK_of rfl) (allK_of rfl) (by decide) (by decide) false (by decide)).mono ?_)
  rintro e w19_ ⟨rfl, hb19_⟩
  have Gb := hide (Gb.out.below hb19_)
  have G2 := hide (G2.out.below hb19_)
  have Gl := hide (Gl.out.below hb19_)
  have G11 := hide (G11.out.below hb19_)
  have Gn := hide (Gn.out.below hb19_)
  have G31 := hide (G31.out.below hb19_)
  have Gm := hide (Gm.out.below hb19_)
  have G122 := hide (G122.out.below hb19_)
  have G12 := hide (G12.out.below hb19_)
  have Gd := hide (Gd.out.below hb19_)
  have Ge := hide (Ge.out.below hb19_)
  have Gs := hide (Gs.out.below hb19_)
  have G6 := hide (G6.out.below hb19_)
  have hB := bcall hB hb19_
  go_wp2
  go_ret
  exact ⟨rfl, hB⟩
end Go.Proofs.Ytggfckednjojgaa
