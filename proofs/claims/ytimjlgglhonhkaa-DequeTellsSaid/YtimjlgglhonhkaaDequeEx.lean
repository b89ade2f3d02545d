/- Layer deque: the chapter's examples hold. -/
import Derived.Test.YtimjlgglhonhkaaDequeItemsAll
import Derived.Deep.Cut
namespace Go.Proofs.Ytimjlgglhonhkaa
open Go.RowKit

instance (x : Int) : Decidable (I6 x) := inferInstanceAs (Decidable (_ ∧ _))
instance (x : Int) : Decidable (U x) := inferInstanceAs (Decidable (_ ∧ _))
instance (l : List Int) : Decidable (AllU l) := inferInstanceAs (Decidable (∀ x ∈ l, U x))
theorem McU_of {k p s c b t x u : Int} (h : (I6 k ∧ I6 p ∧ I6 s ∧ I6 c) ∧ (U b ∧ U t) ∧ I6 x ∧ I6 u) : McU ⟨k, p, s, c, b, t, x, u⟩ := ⟨h.1.1, h.1.2.1, h.1.2.2.1, h.1.2.2.2, h.2.1.1, h.2.1.2, h.2.2.1, h.2.2.2⟩
theorem run_c (k p s q b t x u : Int) (v : Value) (m : List Int) (w : World) (h : Cells w v m) (hbig : m.length * 8 ≤ 140737488351232) (hm : AllU m) (hd : McU ⟨k, p, s, q, b, t, x, u⟩) (most : Nat) (M : List Int) (k1 p1 s1 q1 b1 t1 x1 u1 : Int) (N : Nat)
    (hr : runF most m ⟨k, p, s, q, b, t, x, u⟩ = (M, ⟨k1, p1, s1, q1, b1, t1, x1, u1⟩, N)) (n : Nat) (hn : m.length = n) (hmost : most ≤ 1000) (mi Ni : Int) (hmi : (most : Int) = mi) (hNi : (N : Int) = Ni) :
    Calls Try.prog 43 #[v, mvv k p s q b t x u, .int .i64 mi] w fun e w' => ∃ A c, e = .returned (.tuple #[.slice A n c, mvv k1 p1 s1 q1 b1 t1 x1 u1, .int .i64 Ni]) ∧ (n ≤ c ∧ c ≤ 9223372036854775807) ∧ Cells w' (.slice A n c) M ∧ Below w.heap.size w w' := by
  subst hn hmi hNi
  refine (run_any k p s q b t x u v m w h hbig hm hd most hmost).mono ?_
  rw [hr]
  rintro e w' ⟨A, c, rfl, h1, h2, h3, h4, -, -⟩
  exact ⟨A, c, rfl, h1, h3, h4⟩
theorem box_res (w : World) (k p s c b t x u : Int) : ∃ w1, w.alloc (.cells #[.int .i64 k, .int .i64 p, .int .i64 s, .int .i64 c, .int .u64 b, .int .u64 t, .int .i64 x, .int .i64 u] 26) = w1 ∧ Below w.heap.size w w1 ∧ Mb w1 w.heap.size ⟨k, p, s, c, b, t, x, u⟩ :=
  ⟨_, rfl, bal _ _, mb_new w ⟨k, p, s, c, b, t, x, u⟩⟩

set_option maxRecDepth 100000 in
set_option maxHeartbeats 8000000 in
theorem examples_any (w : World) : Calls Try.prog 11 #[] w fun e w' => e = .returned (.bool true) ∧ Below w.heap.size w w' := by
  have hB : Below w.heap.size w w := Below.refl _ _
  go_enter Try.func11, Try.ntmps11
  go_wp2_with fail
  (with_reducible refine (Cells_any 2 (by decide) 4 rfl _).mono ?_)
  rintro e w0_ ⟨A0_, c0_, rfl, ⟨p0_, q0_⟩, G0, hb0_⟩
  have hB := bcall hB hb0_
  have G0 := hide G0
  go_wp2_with fail
  (with_reducible refine (Start_any 3 0 2 0 _).mono ?_)
  rintro e w1_ ⟨rfl, hb1_⟩
  have G0 := hide (G0.out.below hb1_)
  have hB := bcall hB hb1_
  go_wp2_with fail
  (with_reducible refine (run_c 3 0 0 2 0 0 0 0 _ [1, 1, 0, 0] _ G0.out (by decide) (by decide) (McU_of (by decide)) 9 [1, 1, 0, 0] 3 2 0 2 1 1 0 2 2 (by kernel_rfl) 4 rfl (by decide) 9 2 rfl rfl).mono ?_)
  rintro e w2_ ⟨A2_, c2_, rfl, ⟨p2_, q2_⟩, G1, hb2_⟩
  have G0 := hide (G0.out.below hb2_)
  have hB := bcall hB hb2_
  have G1 := hide G1
  obtain ⟨w3_, e3_, hb3_, Me⟩ := box_res w2_ 3 2 0 2 1 1 0 2
  have E3_ := hide e3_
  have Me := hide Me
  clear e3_
  have G0 := hide (G0.out.below hb3_)
  have G1 := hide (G1.out.below hb3_)
  have hB := bcall hB hb3_
  go_wp2_with fail
  rw [E3_.out]
  (with_reducible refine (Start_any 1 0 2 7 _).mono ?_)
  rintro e w4_ ⟨rfl, hb4_⟩
  have G0 := hide (G0.out.below hb4_)
  have G1 := hide (G1.out.below hb4_)
  have Me := hide (Me.out.below hb4_)
  have hB := bcall hB hb4_
  go_wp2_with fail
  (with_reducible refine (run_c 1 0 0 2 0 0 7 0 _ [1, 1, 0, 0] _ G0.out (by decide) (by decide) (McU_of (by decide)) 9 [1, 2, 0, 7] 1 4 0 2 1 1 7 1 4 (by kernel_rfl) 4 rfl (by decide) 9 4 rfl rfl).mono ?_)
  rintro e w5_ ⟨A5_, c5_, rfl, ⟨p5_, q5_⟩, G2, hb5_⟩
  have G0 := hide (G0.out.below hb5_)
  have G1 := hide (G1.out.below hb5_)
  have Me := hide (Me.out.below hb5_)
  have hB := bcall hB hb5_
  have G2 := hide G2
  obtain ⟨w6_, e6_, hb6_, Ma⟩ := box_res w5_ 1 4 0 2 1 1 7 1
  have E6_ := hide e6_
  have Ma := hide Ma
  clear e6_
  have G0 := hide (G0.out.below hb6_)
  have G1 := hide (G1.out.below hb6_)
  have Me := hide (Me.out.below hb6_)
  have G2 := hide (G2.out.below hb6_)
  have hB := bcall hB hb6_
  go_wp2_with fail
  rw [E6_.out]
  (with_reducible refine (Start_any 1 0 2 8 _).mono ?_)
  rintro e w7_ ⟨rfl, hb7_⟩
  have G0 := hide (G0.out.below hb7_)
  have G1 := hide (G1.out.below hb7_)
  have Me := hide (Me.out.below hb7_)
  have G2 := hide (G2.out.below hb7_)
  have Ma := hide (Ma.out.below hb7_)
  have hB := bcall hB hb7_
  go_wp2_with fail
  (with_reducible refine (run_c 1 0 0 2 0 0 8 0 _ [1, 2, 0, 7] _ G2.out (by decide) (by decide) (McU_of (by decide)) 9 [1, 3, 8, 7] 1 4 0 2 2 1 8 1 4 (by kernel_rfl) 4 rfl (by decide) 9 4 rfl rfl).mono ?_)
  rintro e w8_ ⟨A8_, c8_, rfl, ⟨p8_, q8_⟩, G3, hb8_⟩
  have G0 := hide (G0.out.below hb8_)
  have G1 := hide (G1.out.below hb8_)
  have Me := hide (Me.out.below hb8_)
  have G2 := hide (G2.out.below hb8_)
  have Ma := hide (Ma.out.below hb8_)
  have hB := bcall hB hb8_
  have G3 := hide G3
  obtain ⟨w9_, e9_, hb9_, Mb_⟩ := box_res w8_ 1 4 0 2 2 1 8 1
  have E9_ := hide e9_
  have Mb_ := hide Mb_
  clear e9_
  have G0 := hide (G0.out.below hb9_)
  have G1 := hide (G1.out.below hb9_)
  have Me := hide (Me.out.below hb9_)
  have G2 := hide (G2.out.below hb9_)
  have Ma := hide (Ma.out.below hb9_)
  have G3 := hide (G3.out.below hb9_)
  have hB := bcall hB hb9_
  go_wp2_with fail
  rw [E9_.out]
  (with_reducible refine (Start_any 1 0 2 9 _).mono ?_)
  rintro e w10_ ⟨rfl, hb10_⟩
  have G0 := hide (G0.out.below hb10_)
  have G1 := hide (G1.out.below hb10_)
  have Me := hide (Me.out.below hb10_)
  have G2 := hide (G2.out.below hb10_)
  have Ma := hide (Ma.out.below hb10_)
  have G3 := hide (G3.out.below hb10_)
  have Mb_ := hide (Mb_.out.below hb10_)
  have hB := bcall hB hb10_
  go_wp2_with fail
  (with_reducible refine (run_c 1 0 0 2 0 0 9 0 _ [1, 3, 8, 7] _ G3.out (by decide) (by decide) (McU_of (by decide)) 9 [1, 3, 8, 7] 1 2 0 2 3 1 9 3 2 (by kernel_rfl) 4 rfl (by decide) 9 2 rfl rfl).mono ?_)
  rintro e w11_ ⟨A11_, c11_, rfl, ⟨p11_, q11_⟩, G4, hb11_⟩
  have G0 := hide (G0.out.below hb11_)
  have G1 := hide (G1.out.below hb11_)
  have Me := hide (Me.out.below hb11_)
  have G2 := hide (G2.out.below hb11_)
  have Ma := hide (Ma.out.below hb11_)
  have G3 := hide (G3.out.below hb11_)
  have Mb_ := hide (Mb_.out.below hb11_)
  have hB := bcall hB hb11_
  have G4 := hide G4
  obtain ⟨w12_, e12_, hb12_, Mc_⟩ := box_res w11_ 1 2 0 2 3 1 9 3
  have E12_ := hide e12_
  have Mc_ := hide Mc_
  clear e12_
  have G0 := hide (G0.out.below hb12_)
  have G1 := hide (G1.out.below hb12_)
  have Me := hide (Me.out.below hb12_)
  have G2 := hide (G2.out.below hb12_)
  have Ma := hide (Ma.out.below hb12_)
  have G3 := hide (G3.out.below hb12_)
  have Mb_ := hide (Mb_.out.below hb12_)
  have G4 := hide (G4.out.below hb12_)
  have hB := bcall hB hb12_
  go_wp2_with fail
  rw [E12_.out]
  (with_reducible refine (Items_any 0 0 0 0 0 0 0 0 _ [1, 3, 8, 7] 0 2 _ G4.out (by decide) (by decide) (by decide) (by decide) [7, 8] (by kernel_rfl) 2 rfl).mono ?_)
  rintro e w13_ ⟨A13_, c13_, rfl, ⟨p13_, q13_⟩, I0, hb13_⟩
  have G0 := hide (G0.out.below hb13_)
  have G1 := hide (G1.out.below hb13_)
  have Me := hide (Me.out.below hb13_)
  have G2 := hide (G2.out.below hb13_)
  have Ma := hide (Ma.out.below hb13_)
  have G3 := hide (G3.out.below hb13_)
  have Mb_ := hide (Mb_.out.below hb13_)
  have G4 := hide (G4.out.below hb13_)
  have Mc_ := hide (Mc_.out.below hb13_)
  have hB := bcall hB hb13_
  have I0 := hide I0
  go_wp2_with fail
  (with_reducible refine (Start_any 3 0 2 0 _).mono ?_)
  rintro e w14_ ⟨rfl, hb14_⟩
  have G0 := hide (G0.out.below hb14_)
  have G1 := hide (G1.out.below hb14_)
  have Me := hide (Me.out.below hb14_)
  have G2 := hide (G2.out.below hb14_)
  have Ma := hide (Ma.out.below hb14_)
  have G3 := hide (G3.out.below hb14_)
  have Mb_ := hide (Mb_.out.below hb14_)
  have G4 := hide (G4.out.below hb14_)
  have Mc_ := hide (Mc_.out.below hb14_)
  have I0 := hide (I0.out.below hb14_)
  have hB := bcall hB hb14_
  go_wp2_with fail
  (with_reducible refine (run_c 3 0 0 2 0 0 0 0 _ [1, 3, 8, 7] _ G4.out (by decide) (by decide) (McU_of (by decide)) 9 [2, 3, 8, 7] 3 4 0 2 3 1 7 1 4 (by kernel_rfl) 4 rfl (by decide) 9 4 rfl rfl).mono ?_)
  rintro e w15_ ⟨A15_, c15_, rfl, ⟨p15_, q15_⟩, G5, hb15_⟩
  have G0 := hide (G0.out.below hb15_)
  have G1 := hide (G1.out.below hb15_)
  have Me := hide (Me.out.below hb15_)
  have G2 := hide (G2.out.below hb15_)
  have Ma := hide (Ma.out.below hb15_)
  have G3 := hide (G3.out.below hb15_)
  have Mb_ := hide (Mb_.out.below hb15_)
  have G4 := hide (G4.out.below hb15_)
  have Mc_ := hide (Mc_.out.below hb15_)
  have I0 := hide (I0.out.below hb15_)
  have hB := bcall hB hb15_
  have G5 := hide G5
  obtain ⟨w16_, e16_, hb16_, Mf⟩ := box_res w15_ 3 4 0 2 3 1 7 1
  have E16_ := hide e16_
  have Mf := hide Mf
  clear e16_
  have G0 := hide (G0.out.below hb16_)
  have G1 := hide (G1.out.below hb16_)
  have Me := hide (Me.out.below hb16_)
  have G2 := hide (G2.out.below hb16_)
  have Ma := hide (Ma.out.below hb16_)
  have G3 := hide (G3.out.below hb16_)
  have Mb_ := hide (Mb_.out.below hb16_)
  have G4 := hide (G4.out.below hb16_)
  have Mc_ := hide (Mc_.out.below hb16_)
  have I0 := hide (I0.out.below hb16_)
  have G5 := hide (G5.out.below hb16_)
  have hB := bcall hB hb16_
  go_wp2_with fail
  rw [E16_.out]
  (with_reducible refine (Start_any 2 0 2 0 _).mono ?_)
  rintro e w17_ ⟨rfl, hb17_⟩
  have G0 := hide (G0.out.below hb17_)
  have G1 := hide (G1.out.below hb17_)
  have Me := hide (Me.out.below hb17_)
  have G2 := hide (G2.out.below hb17_)
  have Ma := hide (Ma.out.below hb17_)
  have G3 := hide (G3.out.below hb17_)
  have Mb_ := hide (Mb_.out.below hb17_)
  have G4 := hide (G4.out.below hb17_)
  have Mc_ := hide (Mc_.out.below hb17_)
  have I0 := hide (I0.out.below hb17_)
  have G5 := hide (G5.out.below hb17_)
  have Mf := hide (Mf.out.below hb17_)
  have hB := bcall hB hb17_
  go_wp2_with fail
  (with_reducible refine (run_c 2 0 0 2 0 0 0 0 _ [2, 3, 8, 7] _ G5.out (by decide) (by decide) (McU_of (by decide)) 9 [3, 3, 8, 7] 2 7 0 2 3 2 8 1 6 (by kernel_rfl) 4 rfl (by decide) 9 6 rfl rfl).mono ?_)
  rintro e w18_ ⟨A18_, c18_, rfl, ⟨p18_, q18_⟩, G6, hb18_⟩
  have G0 := hide (G0.out.below hb18_)
  have G1 := hide (G1.out.below hb18_)
  have Me := hide (Me.out.below hb18_)
  have G2 := hide (G2.out.below hb18_)
  have Ma := hide (Ma.out.below hb18_)
  have G3 := hide (G3.out.below hb18_)
  have Mb_ := hide (Mb_.out.below hb18_)
  have G4 := hide (G4.out.below hb18_)
  have Mc_ := hide (Mc_.out.below hb18_)
  have I0 := hide (I0.out.below hb18_)
  have G5 := hide (G5.out.below hb18_)
  have Mf := hide (Mf.out.below hb18_)
  have hB := bcall hB hb18_
  have G6 := hide G6
  obtain ⟨w19_, e19_, hb19_, Mg⟩ := box_res w18_ 2 7 0 2 3 2 8 1
  have E19_ := hide e19_
  have Mg := hide Mg
  clear e19_
  have G0 := hide (G0.out.below hb19_)
  have G1 := hide (G1.out.below hb19_)
  have Me := hide (Me.out.below hb19_)
  have G2 := hide (G2.out.below hb19_)
  have Ma := hide (Ma.out.below hb19_)
  have G3 := hide (G3.out.below hb19_)
  have Mb_ := hide (Mb_.out.below hb19_)
  have G4 := hide (G4.out.below hb19_)
  have Mc_ := hide (Mc_.out.below hb19_)
  have I0 := hide (I0.out.below hb19_)
  have G5 := hide (G5.out.below hb19_)
  have Mf := hide (Mf.out.below hb19_)
  have G6 := hide (G6.out.below hb19_)
  have hB := bcall hB hb19_
  go_wp2_with fail
  rw [E19_.out]
  (with_reducible refine (Start_any 2 0 2 0 _).mono ?_)
  rintro e w20_ ⟨rfl, hb20_⟩
  have G0 := hide (G0.out.below hb20_)
  have G1 := hide (G1.out.below hb20_)
  have Me := hide (Me.out.below hb20_)
  have G2 := hide (G2.out.below hb20_)
  have Ma := hide (Ma.out.below hb20_)
  have G3 := hide (G3.out.below hb20_)
  have Mb_ := hide (Mb_.out.below hb20_)
  have G4 := hide (G4.out.below hb20_)
  have Mc_ := hide (Mc_.out.below hb20_)
  have I0 := hide (I0.out.below hb20_)
  have G5 := hide (G5.out.below hb20_)
  have Mf := hide (Mf.out.below hb20_)
  have G6 := hide (G6.out.below hb20_)
  have Mg := hide (Mg.out.below hb20_)
  have hB := bcall hB hb20_
  go_wp2_with fail
  (with_reducible refine (run_c 2 0 0 2 0 0 0 0 _ [3, 3, 8, 7] _ G6.out (by decide) (by decide) (McU_of (by decide)) 9 [3, 3, 8, 7] 2 6 0 2 3 3 0 2 4 (by kernel_rfl) 4 rfl (by decide) 9 4 rfl rfl).mono ?_)
  rintro e w21_ ⟨A21_, c21_, rfl, ⟨p21_, q21_⟩, G7, hb21_⟩
  have G0 := hide (G0.out.below hb21_)
  have G1 := hide (G1.out.below hb21_)
  have Me := hide (Me.out.below hb21_)
  have G2 := hide (G2.out.below hb21_)
  have Ma := hide (Ma.out.below hb21_)
  have G3 := hide (G3.out.below hb21_)
  have Mb_ := hide (Mb_.out.below hb21_)
  have G4 := hide (G4.out.below hb21_)
  have Mc_ := hide (Mc_.out.below hb21_)
  have I0 := hide (I0.out.below hb21_)
  have G5 := hide (G5.out.below hb21_)
  have Mf := hide (Mf.out.below hb21_)
  have G6 := hide (G6.out.below hb21_)
  have Mg := hide (Mg.out.below hb21_)
  have hB := bcall hB hb21_
  have G7 := hide G7
  obtain ⟨w22_, e22_, hb22_, Mh⟩ := box_res w21_ 2 6 0 2 3 3 0 2
  have E22_ := hide e22_
  have Mh := hide Mh
  clear e22_
  have G0 := hide (G0.out.below hb22_)
  have G1 := hide (G1.out.below hb22_)
  have Me := hide (Me.out.below hb22_)
  have G2 := hide (G2.out.below hb22_)
  have Ma := hide (Ma.out.below hb22_)
  have G3 := hide (G3.out.below hb22_)
  have Mb_ := hide (Mb_.out.below hb22_)
  have G4 := hide (G4.out.below hb22_)
  have Mc_ := hide (Mc_.out.below hb22_)
  have I0 := hide (I0.out.below hb22_)
  have G5 := hide (G5.out.below hb22_)
  have Mf := hide (Mf.out.below hb22_)
  have G6 := hide (G6.out.below hb22_)
  have Mg := hide (Mg.out.below hb22_)
  have G7 := hide (G7.out.below hb22_)
  have hB := bcall hB hb22_
  go_upto_region 10 with (fail)
  rw [E22_.out]
  obtain ⟨ig, io, rfl, -, i0⟩ := ints_at I0.out (k := 0) (by decide)
  obtain ⟨ig2, io2, ie, -, i1⟩ := ints_at I0.out (k := 1) (by decide)
  injection ie with ie; injection ie with ie1 ie2; subst ie1; subst ie2
  simp only [List.getElem_cons_zero, List.getElem_cons_succ, Nat.add_zero] at i0 i1
  obtain ⟨-, -, -, -, -, -, xMe, uMe⟩ := Me.out.cells
  obtain ⟨-, -, -, -, -, -, xMa, uMa⟩ := Ma.out.cells
  obtain ⟨-, -, -, -, -, -, xMb_, uMb_⟩ := Mb_.out.cells
  obtain ⟨-, -, -, -, -, -, xMc_, uMc_⟩ := Mc_.out.cells
  obtain ⟨-, -, -, -, -, -, xMf, uMf⟩ := Mf.out.cells
  obtain ⟨-, -, -, -, -, -, xMg, uMg⟩ := Mg.out.cells
  obtain ⟨-, -, -, -, -, -, xMh, uMh⟩ := Mh.out.cells
  go_wp2_with fail
  (with_reducible refine (Items_any 0 0 0 0 0 0 0 0 _ [3, 3, 8, 7] 0 2 _ G7.out (by decide) (by decide) (by decide) (by decide) [] (by kernel_rfl) 0 rfl).mono ?_)
  rintro e w23_ ⟨A23_, c23_, rfl, ⟨p23_, q23_⟩, I1, hb23_⟩
  have G0 := hide (G0.out.below hb23_)
  have G1 := hide (G1.out.below hb23_)
  have Me := hide (Me.out.below hb23_)
  have G2 := hide (G2.out.below hb23_)
  have Ma := hide (Ma.out.below hb23_)
  have G3 := hide (G3.out.below hb23_)
  have Mb_ := hide (Mb_.out.below hb23_)
  have G4 := hide (G4.out.below hb23_)
  have Mc_ := hide (Mc_.out.below hb23_)
  have I0 := hide (I0.out.below hb23_)
  have G5 := hide (G5.out.below hb23_)
  have Mf := hide (Mf.out.below hb23_)
  have G6 := hide (G6.out.below hb23_)
  have Mg := hide (Mg.out.below hb23_)
  have G7 := hide (G7.out.below hb23_)
  have Mh := hide (Mh.out.below hb23_)
  have hB := bcall hB hb23_
  have I1 := hide I1
  go_wp2
  go_ret
  exact ⟨rfl, hB⟩
end Go.Proofs.Ytimjlgglhonhkaa
