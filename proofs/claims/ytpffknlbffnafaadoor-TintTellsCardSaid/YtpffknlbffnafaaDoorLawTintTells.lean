/- TintTells: of any colours, any numbers all is told as the chapter says. No condition beside the listed tables, which the card ties to the text. -/
import Derived.Test.YtpffknlbffnafaaDoorTintRefD
import Derived.Test.YtpffknlbffnafaaDoorQuietB
namespace Go.Proofs.YtpffknlbffnafaaDoor.lawTintTells
open Go.RowKit Go.WideShapes Go.ChangeShapes Go.ChangeAt Go.Shelf Go.Proofs Go.Proofs.YtpffknlbffnafaaDoor

set_option maxRecDepth 100000 in
set_option maxHeartbeats 8000000 in
theorem walk (m b p q : Nat) (hm : m < 18446744073709551616) (hb : b < 18446744073709551616) (_hp : p < 18446744073709551616) (_hq : q < 18446744073709551616) (o n : Int) (ho : -9223372036854775808 ≤ o ∧ o ≤ 9223372036854775807) (hn : -9223372036854775808 ≤ n ∧ n ≤ 9223372036854775807) (w : World) (hE : EnvL w) : Calls Tryd.prog 3 #[tv m b, tv p q, .int .i64 o, .int .i64 n] w fun e w' => e = .returned (.bool true) ∧ Below w.heap.size w w' := by
  have hB : Below w.heap.size w w := Below.refl _ _
  have HV := hide hE
  clear hE
  have gT := guardT
  have gR := guardR
  obtain ⟨o0, o1⟩ := ho
  obtain ⟨n0, n1⟩ := hn
  go_enter Tryd.func3, Tryd.ntmps3
  obtain ⟨w1, e1, hb1, hs1, t0, t1, s0, s1, -, -, gs0, gs1⟩ := box3 w (.int .u64 m) (.int .u64 b) (.int .u64 p) (.int .u64 q) 25
  have HE1 := hide e1
  clear e1
  replace HV := hide (HV.out.below hb1)
  replace hB := bcall hB hb1
  clear hb1
  go_wp2_with fail
  rw [HE1.out]
  (with_reducible refine (examples_any _ HV.out).mono ?_)
  rintro e w2 ⟨rfl, hb2⟩
  replace t0 := keepc hb2 t0
  replace t1 := keepc hb2 t1
  replace s0 := keepc hb2 s0
  replace s1 := keepc hb2 s1
  replace HV := hide (HV.out.below hb2)
  replace hB := bcall hB hb2
  have hs2 := hb2.size
  clear hb2
  go_wp2_with fail
  (with_reducible refine (refTint_any m b _).mono ?_)
  rintro e w3 ⟨rfl, hb3⟩
  replace t0 := keepc hb3 t0
  replace t1 := keepc hb3 t1
  replace s0 := keepc hb3 s0
  replace s1 := keepc hb3 s1
  replace HV := hide (HV.out.below hb3)
  replace hB := bcall hB hb3
  have hs3 := hb3.size
  clear hb3
  obtain ⟨w4, e4, hb4, hs4, r0, r1, -, -⟩ := box1 w3 (.int .u64 m) (.int .u64 b) 28
  have HE4 := hide e4
  clear e4
  have A_t0 : ∀ ob, (w3.alloc ob).cell? ⟨w.heap.size, 0, none⟩ = some (.int .u64 m) := fun _ => keepc (bal _ _) t0
  replace t0 := keepc hb4 t0
  have A_t1 : ∀ ob, (w3.alloc ob).cell? ⟨w.heap.size, 1, none⟩ = some (.int .u64 b) := fun _ => keepc (bal _ _) t1
  replace t1 := keepc hb4 t1
  have A_s0 : ∀ ob, (w3.alloc ob).cell? ⟨w.heap.size + 1, 0, none⟩ = some (.int .u64 p) := fun _ => keepc (bal _ _) s0
  replace s0 := keepc hb4 s0
  have A_s1 : ∀ ob, (w3.alloc ob).cell? ⟨w.heap.size + 1, 1, none⟩ = some (.int .u64 q) := fun _ => keepc (bal _ _) s1
  replace s1 := keepc hb4 s1
  replace HV := hide (HV.out.below hb4)
  replace hB := bcall hB hb4
  clear hb4
  go_wp2_with fail
  rw [HE4.out]
  clear A_t0 A_t1 A_s0 A_s1
  (with_reducible refine (refTint_any p q _).mono ?_)
  rintro e w5 ⟨rfl, hb5⟩
  replace t0 := keepc hb5 t0
  replace t1 := keepc hb5 t1
  replace s0 := keepc hb5 s0
  replace s1 := keepc hb5 s1
  replace r0 := keepc hb5 r0
  replace r1 := keepc hb5 r1
  replace HV := hide (HV.out.below hb5)
  replace hB := bcall hB hb5
  have hs5 := hb5.size
  clear hb5
  obtain ⟨w6, e6, hb6, hs6, z0, z1, -, -⟩ := box1 w5 (.int .u64 p) (.int .u64 q) 28
  have HE6 := hide e6
  clear e6
  have A_t0 : ∀ ob, (w5.alloc ob).cell? ⟨w.heap.size, 0, none⟩ = some (.int .u64 m) := fun _ => keepc (bal _ _) t0
  replace t0 := keepc hb6 t0
  have A_t1 : ∀ ob, (w5.alloc ob).cell? ⟨w.heap.size, 1, none⟩ = some (.int .u64 b) := fun _ => keepc (bal _ _) t1
  replace t1 := keepc hb6 t1
  have A_s0 : ∀ ob, (w5.alloc ob).cell? ⟨w.heap.size + 1, 0, none⟩ = some (.int .u64 p) := fun _ => keepc (bal _ _) s0
  replace s0 := keepc hb6 s0
  have A_s1 : ∀ ob, (w5.alloc ob).cell? ⟨w.heap.size + 1, 1, none⟩ = some (.int .u64 q) := fun _ => keepc (bal _ _) s1
  replace s1 := keepc hb6 s1
  have A_r0 : ∀ ob, (w5.alloc ob).cell? ⟨w3.heap.size, 0, none⟩ = some (.int .u64 m) := fun _ => keepc (bal _ _) r0
  replace r0 := keepc hb6 r0
  have A_r1 : ∀ ob, (w5.alloc ob).cell? ⟨w3.heap.size, 1, none⟩ = some (.int .u64 b) := fun _ => keepc (bal _ _) r1
  replace r1 := keepc hb6 r1
  replace HV := hide (HV.out.below hb6)
  replace hB := bcall hB hb6
  clear hb6
  go_wp2_with fail
  rw [HE6.out]
  clear A_t0 A_t1 A_s0 A_s1 A_r0 A_r1
  (with_reducible refine (Shade_any m b o hm hb (by omega) (by omega) _).mono ?_)
  rintro e w7 ⟨rfl, hb7⟩
  replace t0 := keepc hb7 t0
  replace t1 := keepc hb7 t1
  replace s0 := keepc hb7 s0
  replace s1 := keepc hb7 s1
  replace r0 := keepc hb7 r0
  replace r1 := keepc hb7 r1
  replace z0 := keepc hb7 z0
  replace z1 := keepc hb7 z1
  replace HV := hide (HV.out.below hb7)
  replace hB := bcall hB hb7
  have hs7 := hb7.size
  clear hb7
  obtain ⟨w8, e8, hb8, hs8, x0, x1, -, -⟩ := box1 w7 (.int .u64 (shM m b o)) (.int .u64 b) 25
  have HE8 := hide e8
  clear e8
  have A_t0 : ∀ ob, (w7.alloc ob).cell? ⟨w.heap.size, 0, none⟩ = some (.int .u64 m) := fun _ => keepc (bal _ _) t0
  replace t0 := keepc hb8 t0
  have A_t1 : ∀ ob, (w7.alloc ob).cell? ⟨w.heap.size, 1, none⟩ = some (.int .u64 b) := fun _ => keepc (bal _ _) t1
  replace t1 := keepc hb8 t1
  have A_s0 : ∀ ob, (w7.alloc ob).cell? ⟨w.heap.size + 1, 0, none⟩ = some (.int .u64 p) := fun _ => keepc (bal _ _) s0
  replace s0 := keepc hb8 s0
  have A_s1 : ∀ ob, (w7.alloc ob).cell? ⟨w.heap.size + 1, 1, none⟩ = some (.int .u64 q) := fun _ => keepc (bal _ _) s1
  replace s1 := keepc hb8 s1
  have A_r0 : ∀ ob, (w7.alloc ob).cell? ⟨w3.heap.size, 0, none⟩ = some (.int .u64 m) := fun _ => keepc (bal _ _) r0
  replace r0 := keepc hb8 r0
  have A_r1 : ∀ ob, (w7.alloc ob).cell? ⟨w3.heap.size, 1, none⟩ = some (.int .u64 b) := fun _ => keepc (bal _ _) r1
  replace r1 := keepc hb8 r1
  have A_z0 : ∀ ob, (w7.alloc ob).cell? ⟨w5.heap.size, 0, none⟩ = some (.int .u64 p) := fun _ => keepc (bal _ _) z0
  replace z0 := keepc hb8 z0
  have A_z1 : ∀ ob, (w7.alloc ob).cell? ⟨w5.heap.size, 1, none⟩ = some (.int .u64 q) := fun _ => keepc (bal _ _) z1
  replace z1 := keepc hb8 z1
  replace HV := hide (HV.out.below hb8)
  replace hB := bcall hB hb8
  clear hb8
  go_wp2_with fail
  rw [HE8.out]
  clear A_t0 A_t1 A_s0 A_s1 A_r0 A_r1 A_z0 A_z1
  (with_reducible refine (rShade_any m b o hm hb (by omega) (by omega) _).mono ?_)
  rintro e w9 ⟨rfl, hb9⟩
  replace t0 := keepc hb9 t0
  replace t1 := keepc hb9 t1
  replace s0 := keepc hb9 s0
  replace s1 := keepc hb9 s1
  replace r0 := keepc hb9 r0
  replace r1 := keepc hb9 r1
  replace z0 := keepc hb9 z0
  replace z1 := keepc hb9 z1
  replace x0 := keepc hb9 x0
  replace x1 := keepc hb9 x1
  replace HV := hide (HV.out.below hb9)
  replace hB := bcall hB hb9
  have hs9 := hb9.size
  clear hb9
  obtain ⟨w10, e10, hb10, hs10, xr0, xr1, -, -⟩ := box1 w9 (.int .u64 (shM m b o)) (.int .u64 b) 28
  have HE10 := hide e10
  clear e10
  have A_t0 : ∀ ob, (w9.alloc ob).cell? ⟨w.heap.size, 0, none⟩ = some (.int .u64 m) := fun _ => keepc (bal _ _) t0
  replace t0 := keepc hb10 t0
  have A_t1 : ∀ ob, (w9.alloc ob).cell? ⟨w.heap.size, 1, none⟩ = some (.int .u64 b) := fun _ => keepc (bal _ _) t1
  replace t1 := keepc hb10 t1
  have A_s0 : ∀ ob, (w9.alloc ob).cell? ⟨w.heap.size + 1, 0, none⟩ = some (.int .u64 p) := fun _ => keepc (bal _ _) s0
  replace s0 := keepc hb10 s0
  have A_s1 : ∀ ob, (w9.alloc ob).cell? ⟨w.heap.size + 1, 1, none⟩ = some (.int .u64 q) := fun _ => keepc (bal _ _) s1
  replace s1 := keepc hb10 s1
  have A_r0 : ∀ ob, (w9.alloc ob).cell? ⟨w3.heap.size, 0, none⟩ = some (.int .u64 m) := fun _ => keepc (bal _ _) r0
  replace r0 := keepc hb10 r0
  have A_r1 : ∀ ob, (w9.alloc ob).cell? ⟨w3.heap.size, 1, none⟩ = some (.int .u64 b) := fun _ => keepc (bal _ _) r1
  replace r1 := keepc hb10 r1
  have A_z0 : ∀ ob, (w9.alloc ob).cell? ⟨w5.heap.size, 0, none⟩ = some (.int .u64 p) := fun _ => keepc (bal _ _) z0
  replace z0 := keepc hb10 z0
  have A_z1 : ∀ ob, (w9.alloc ob).cell? ⟨w5.heap.size, 1, none⟩ = some (.int .u64 q) := fun _ => keepc (bal _ _) z1
  replace z1 := keepc hb10 z1
  have A_x0 : ∀ ob, (w9.alloc ob).cell? ⟨w7.heap.size, 0, none⟩ = some (.int .u64 (shM m b o)) := fun _ => keepc (bal _ _) x0
  replace x0 := keepc hb10 x0
  have A_x1 : ∀ ob, (w9.alloc ob).cell? ⟨w7.heap.size, 1, none⟩ = some (.int .u64 b) := fun _ => keepc (bal _ _) x1
  replace x1 := keepc hb10 x1
  replace HV := hide (HV.out.below hb10)
  replace hB := bcall hB hb10
  clear hb10
  go_wp2_with fail
  rw [HE10.out]
  clear A_t0 A_t1 A_s0 A_s1 A_r0 A_r1 A_z0 A_z1 A_x0 A_x1
  (with_reducible refine (Scan_any m b o hm hb (by omega) (by omega) _).mono ?_)
  rintro e w11 ⟨rfl, hb11⟩
  replace t0 := keepc hb11 t0
  replace t1 := keepc hb11 t1
  replace s0 := keepc hb11 s0
  replace s1 := keepc hb11 s1
  replace r0 := keepc hb11 r0
  replace r1 := keepc hb11 r1
  replace z0 := keepc hb11 z0
  replace z1 := keepc hb11 z1
  replace x0 := keepc hb11 x0
  replace x1 := keepc hb11 x1
  replace xr0 := keepc hb11 xr0
  replace xr1 := keepc hb11 xr1
  replace HV := hide (HV.out.below hb11)
  replace hB := bcall hB hb11
  have hs11 := hb11.size
  clear hb11
  obtain ⟨w12, e12, hb12, hs12, c0, c1, -, -⟩ := box1 w11 (.int .u64 m) (.int .u64 (scB m b o)) 25
  have HE12 := hide e12
  clear e12
  have A_t0 : ∀ ob, (w11.alloc ob).cell? ⟨w.heap.size, 0, none⟩ = some (.int .u64 m) := fun _ => keepc (bal _ _) t0
  replace t0 := keepc hb12 t0
  have A_t1 : ∀ ob, (w11.alloc ob).cell? ⟨w.heap.size, 1, none⟩ = some (.int .u64 b) := fun _ => keepc (bal _ _) t1
  replace t1 := keepc hb12 t1
  have A_s0 : ∀ ob, (w11.alloc ob).cell? ⟨w.heap.size + 1, 0, none⟩ = some (.int .u64 p) := fun _ => keepc (bal _ _) s0
  replace s0 := keepc hb12 s0
  have A_s1 : ∀ ob, (w11.alloc ob).cell? ⟨w.heap.size + 1, 1, none⟩ = some (.int .u64 q) := fun _ => keepc (bal _ _) s1
  replace s1 := keepc hb12 s1
  have A_r0 : ∀ ob, (w11.alloc ob).cell? ⟨w3.heap.size, 0, none⟩ = some (.int .u64 m) := fun _ => keepc (bal _ _) r0
  replace r0 := keepc hb12 r0
  have A_r1 : ∀ ob, (w11.alloc ob).cell? ⟨w3.heap.size, 1, none⟩ = some (.int .u64 b) := fun _ => keepc (bal _ _) r1
  replace r1 := keepc hb12 r1
  have A_z0 : ∀ ob, (w11.alloc ob).cell? ⟨w5.heap.size, 0, none⟩ = some (.int .u64 p) := fun _ => keepc (bal _ _) z0
  replace z0 := keepc hb12 z0
  have A_z1 : ∀ ob, (w11.alloc ob).cell? ⟨w5.heap.size, 1, none⟩ = some (.int .u64 q) := fun _ => keepc (bal _ _) z1
  replace z1 := keepc hb12 z1
  have A_x0 : ∀ ob, (w11.alloc ob).cell? ⟨w7.heap.size, 0, none⟩ = some (.int .u64 (shM m b o)) := fun _ => keepc (bal _ _) x0
  replace x0 := keepc hb12 x0
  have A_x1 : ∀ ob, (w11.alloc ob).cell? ⟨w7.heap.size, 1, none⟩ = some (.int .u64 b) := fun _ => keepc (bal _ _) x1
  replace x1 := keepc hb12 x1
  have A_xr0 : ∀ ob, (w11.alloc ob).cell? ⟨w9.heap.size, 0, none⟩ = some (.int .u64 (shM m b o)) := fun _ => keepc (bal _ _) xr0
  replace xr0 := keepc hb12 xr0
  have A_xr1 : ∀ ob, (w11.alloc ob).cell? ⟨w9.heap.size, 1, none⟩ = some (.int .u64 b) := fun _ => keepc (bal _ _) xr1
  replace xr1 := keepc hb12 xr1
  replace HV := hide (HV.out.below hb12)
  replace hB := bcall hB hb12
  clear hb12
  go_wp2_with fail
  rw [HE12.out]
  clear A_t0 A_t1 A_s0 A_s1 A_r0 A_r1 A_z0 A_z1 A_x0 A_x1 A_xr0 A_xr1
  (with_reducible refine (rScan_any m b o hm hb (by omega) (by omega) _).mono ?_)
  rintro e w13 ⟨rfl, hb13⟩
  replace t0 := keepc hb13 t0
  replace t1 := keepc hb13 t1
  replace s0 := keepc hb13 s0
  replace s1 := keepc hb13 s1
  replace r0 := keepc hb13 r0
  replace r1 := keepc hb13 r1
  replace z0 := keepc hb13 z0
  replace z1 := keepc hb13 z1
  replace x0 := keepc hb13 x0
  replace x1 := keepc hb13 x1
  replace xr0 := keepc hb13 xr0
  replace xr1 := keepc hb13 xr1
  replace c0 := keepc hb13 c0
  replace c1 := keepc hb13 c1
  replace HV := hide (HV.out.below hb13)
  replace hB := bcall hB hb13
  have hs13 := hb13.size
  clear hb13
  obtain ⟨w14, e14, hb14, hs14, cr0, cr1, -, -⟩ := box1 w13 (.int .u64 m) (.int .u64 (scB m b o)) 28
  have HE14 := hide e14
  clear e14
  have A_t0 : ∀ ob, (w13.alloc ob).cell? ⟨w.heap.size, 0, none⟩ = some (.int .u64 m) := fun _ => keepc (bal _ _) t0
  replace t0 := keepc hb14 t0
  have A_t1 : ∀ ob, (w13.alloc ob).cell? ⟨w.heap.size, 1, none⟩ = some (.int .u64 b) := fun _ => keepc (bal _ _) t1
  replace t1 := keepc hb14 t1
  have A_s0 : ∀ ob, (w13.alloc ob).cell? ⟨w.heap.size + 1, 0, none⟩ = some (.int .u64 p) := fun _ => keepc (bal _ _) s0
  replace s0 := keepc hb14 s0
  have A_s1 : ∀ ob, (w13.alloc ob).cell? ⟨w.heap.size + 1, 1, none⟩ = some (.int .u64 q) := fun _ => keepc (bal _ _) s1
  replace s1 := keepc hb14 s1
  have A_r0 : ∀ ob, (w13.alloc ob).cell? ⟨w3.heap.size, 0, none⟩ = some (.int .u64 m) := fun _ => keepc (bal _ _) r0
  replace r0 := keepc hb14 r0
  have A_r1 : ∀ ob, (w13.alloc ob).cell? ⟨w3.heap.size, 1, none⟩ = some (.int .u64 b) := fun _ => keepc (bal _ _) r1
  replace r1 := keepc hb14 r1
  have A_z0 : ∀ ob, (w13.alloc ob).cell? ⟨w5.heap.size, 0, none⟩ = some (.int .u64 p) := fun _ => keepc (bal _ _) z0
  replace z0 := keepc hb14 z0
  have A_z1 : ∀ ob, (w13.alloc ob).cell? ⟨w5.heap.size, 1, none⟩ = some (.int .u64 q) := fun _ => keepc (bal _ _) z1
  replace z1 := keepc hb14 z1
  have A_x0 : ∀ ob, (w13.alloc ob).cell? ⟨w7.heap.size, 0, none⟩ = some (.int .u64 (shM m b o)) := fun _ => keepc (bal _ _) x0
  replace x0 := keepc hb14 x0
  have A_x1 : ∀ ob, (w13.alloc ob).cell? ⟨w7.heap.size, 1, none⟩ = some (.int .u64 b) := fun _ => keepc (bal _ _) x1
  replace x1 := keepc hb14 x1
  have A_xr0 : ∀ ob, (w13.alloc ob).cell? ⟨w9.heap.size, 0, none⟩ = some (.int .u64 (shM m b o)) := fun _ => keepc (bal _ _) xr0
  replace xr0 := keepc hb14 xr0
  have A_xr1 : ∀ ob, (w13.alloc ob).cell? ⟨w9.heap.size, 1, none⟩ = some (.int .u64 b) := fun _ => keepc (bal _ _) xr1
  replace xr1 := keepc hb14 xr1
  have A_c0 : ∀ ob, (w13.alloc ob).cell? ⟨w11.heap.size, 0, none⟩ = some (.int .u64 m) := fun _ => keepc (bal _ _) c0
  replace c0 := keepc hb14 c0
  have A_c1 : ∀ ob, (w13.alloc ob).cell? ⟨w11.heap.size, 1, none⟩ = some (.int .u64 (scB m b o)) := fun _ => keepc (bal _ _) c1
  replace c1 := keepc hb14 c1
  replace HV := hide (HV.out.below hb14)
  replace hB := bcall hB hb14
  clear hb14
  go_wp2_with fail
  rw [HE14.out]
  clear A_t0 A_t1 A_s0 A_s1 A_r0 A_r1 A_z0 A_z1 A_x0 A_x1 A_xr0 A_xr1 A_c0 A_c1
  (with_reducible refine (Fresh_any m b o hm hb (by omega) (by omega) _).mono ?_)
  rintro e w15 ⟨rfl, hb15⟩
  replace t0 := keepc hb15 t0
  replace t1 := keepc hb15 t1
  replace s0 := keepc hb15 s0
  replace s1 := keepc hb15 s1
  replace r0 := keepc hb15 r0
  replace r1 := keepc hb15 r1
  replace z0 := keepc hb15 z0
  replace z1 := keepc hb15 z1
  replace x0 := keepc hb15 x0
  replace x1 := keepc hb15 x1
  replace xr0 := keepc hb15 xr0
  replace xr1 := keepc hb15 xr1
  replace c0 := keepc hb15 c0
  replace c1 := keepc hb15 c1
  replace cr0 := keepc hb15 cr0
  replace cr1 := keepc hb15 cr1
  replace HV := hide (HV.out.below hb15)
  replace hB := bcall hB hb15
  have hs15 := hb15.size
  clear hb15
  obtain ⟨w16, e16, hb16, hs16, f0, f1, -, -⟩ := box1 w15 (.int .u64 (shM m b o)) (.int .u64 (frB m b o)) 25
  have HE16 := hide e16
  clear e16
  have A_t0 : ∀ ob, (w15.alloc ob).cell? ⟨w.heap.size, 0, none⟩ = some (.int .u64 m) := fun _ => keepc (bal _ _) t0
  replace t0 := keepc hb16 t0
  have A_t1 : ∀ ob, (w15.alloc ob).cell? ⟨w.heap.size, 1, none⟩ = some (.int .u64 b) := fun _ => keepc (bal _ _) t1
  replace t1 := keepc hb16 t1
  have A_s0 : ∀ ob, (w15.alloc ob).cell? ⟨w.heap.size + 1, 0, none⟩ = some (.int .u64 p) := fun _ => keepc (bal _ _) s0
  replace s0 := keepc hb16 s0
  have A_s1 : ∀ ob, (w15.alloc ob).cell? ⟨w.heap.size + 1, 1, none⟩ = some (.int .u64 q) := fun _ => keepc (bal _ _) s1
  replace s1 := keepc hb16 s1
  have A_r0 : ∀ ob, (w15.alloc ob).cell? ⟨w3.heap.size, 0, none⟩ = some (.int .u64 m) := fun _ => keepc (bal _ _) r0
  replace r0 := keepc hb16 r0
  have A_r1 : ∀ ob, (w15.alloc ob).cell? ⟨w3.heap.size, 1, none⟩ = some (.int .u64 b) := fun _ => keepc (bal _ _) r1
  replace r1 := keepc hb16 r1
  have A_z0 : ∀ ob, (w15.alloc ob).cell? ⟨w5.heap.size, 0, none⟩ = some (.int .u64 p) := fun _ => keepc (bal _ _) z0
  replace z0 := keepc hb16 z0
  have A_z1 : ∀ ob, (w15.alloc ob).cell? ⟨w5.heap.size, 1, none⟩ = some (.int .u64 q) := fun _ => keepc (bal _ _) z1
  replace z1 := keepc hb16 z1
  have A_x0 : ∀ ob, (w15.alloc ob).cell? ⟨w7.heap.size, 0, none⟩ = some (.int .u64 (shM m b o)) := fun _ => keepc (bal _ _) x0
  replace x0 := keepc hb16 x0
  have A_x1 : ∀ ob, (w15.alloc ob).cell? ⟨w7.heap.size, 1, none⟩ = some (.int .u64 b) := fun _ => keepc (bal _ _) x1
  replace x1 := keepc hb16 x1
  have A_xr0 : ∀ ob, (w15.alloc ob).cell? ⟨w9.heap.size, 0, none⟩ = some (.int .u64 (shM m b o)) := fun _ => keepc (bal _ _) xr0
  replace xr0 := keepc hb16 xr0
  have A_xr1 : ∀ ob, (w15.alloc ob).cell? ⟨w9.heap.size, 1, none⟩ = some (.int .u64 b) := fun _ => keepc (bal _ _) xr1
  replace xr1 := keepc hb16 xr1
  have A_c0 : ∀ ob, (w15.alloc ob).cell? ⟨w11.heap.size, 0, none⟩ = some (.int .u64 m) := fun _ => keepc (bal _ _) c0
  replace c0 := keepc hb16 c0
  have A_c1 : ∀ ob, (w15.alloc ob).cell? ⟨w11.heap.size, 1, none⟩ = some (.int .u64 (scB m b o)) := fun _ => keepc (bal _ _) c1
  replace c1 := keepc hb16 c1
  have A_cr0 : ∀ ob, (w15.alloc ob).cell? ⟨w13.heap.size, 0, none⟩ = some (.int .u64 m) := fun _ => keepc (bal _ _) cr0
  replace cr0 := keepc hb16 cr0
  have A_cr1 : ∀ ob, (w15.alloc ob).cell? ⟨w13.heap.size, 1, none⟩ = some (.int .u64 (scB m b o)) := fun _ => keepc (bal _ _) cr1
  replace cr1 := keepc hb16 cr1
  replace HV := hide (HV.out.below hb16)
  replace hB := bcall hB hb16
  clear hb16
  go_wp2_with fail
  rw [HE16.out]
  clear A_t0 A_t1 A_s0 A_s1 A_r0 A_r1 A_z0 A_z1 A_x0 A_x1 A_xr0 A_xr1 A_c0 A_c1 A_cr0 A_cr1
  (with_reducible refine (rFresh_any m b o hm hb (by omega) (by omega) _).mono ?_)
  rintro e w17 ⟨rfl, hb17⟩
  replace t0 := keepc hb17 t0
  replace t1 := keepc hb17 t1
  replace s0 := keepc hb17 s0
  replace s1 := keepc hb17 s1
  replace r0 := keepc hb17 r0
  replace r1 := keepc hb17 r1
  replace z0 := keepc hb17 z0
  replace z1 := keepc hb17 z1
  replace x0 := keepc hb17 x0
  replace x1 := keepc hb17 x1
  replace xr0 := keepc hb17 xr0
  replace xr1 := keepc hb17 xr1
  replace c0 := keepc hb17 c0
  replace c1 := keepc hb17 c1
  replace cr0 := keepc hb17 cr0
  replace cr1 := keepc hb17 cr1
  replace f0 := keepc hb17 f0
  replace f1 := keepc hb17 f1
  replace HV := hide (HV.out.below hb17)
  replace hB := bcall hB hb17
  have hs17 := hb17.size
  clear hb17
  obtain ⟨w18, e18, hb18, hs18, fr0, fr1, -, -⟩ := box1 w17 (.int .u64 (shM m b o)) (.int .u64 (frB m b o)) 28
  have HE18 := hide e18
  clear e18
  have A_t0 : ∀ ob, (w17.alloc ob).cell? ⟨w.heap.size, 0, none⟩ = some (.int .u64 m) := fun _ => keepc (bal _ _) t0
  replace t0 := keepc hb18 t0
  have A_t1 : ∀ ob, (w17.alloc ob).cell? ⟨w.heap.size, 1, none⟩ = some (.int .u64 b) := fun _ => keepc (bal _ _) t1
  replace t1 := keepc hb18 t1
  have A_s0 : ∀ ob, (w17.alloc ob).cell? ⟨w.heap.size + 1, 0, none⟩ = some (.int .u64 p) := fun _ => keepc (bal _ _) s0
  replace s0 := keepc hb18 s0
  have A_s1 : ∀ ob, (w17.alloc ob).cell? ⟨w.heap.size + 1, 1, none⟩ = some (.int .u64 q) := fun _ => keepc (bal _ _) s1
  replace s1 := keepc hb18 s1
  have A_r0 : ∀ ob, (w17.alloc ob).cell? ⟨w3.heap.size, 0, none⟩ = some (.int .u64 m) := fun _ => keepc (bal _ _) r0
  replace r0 := keepc hb18 r0
  have A_r1 : ∀ ob, (w17.alloc ob).cell? ⟨w3.heap.size, 1, none⟩ = some (.int .u64 b) := fun _ => keepc (bal _ _) r1
  replace r1 := keepc hb18 r1
  have A_z0 : ∀ ob, (w17.alloc ob).cell? ⟨w5.heap.size, 0, none⟩ = some (.int .u64 p) := fun _ => keepc (bal _ _) z0
  replace z0 := keepc hb18 z0
  have A_z1 : ∀ ob, (w17.alloc ob).cell? ⟨w5.heap.size, 1, none⟩ = some (.int .u64 q) := fun _ => keepc (bal _ _) z1
  replace z1 := keepc hb18 z1
  have A_x0 : ∀ ob, (w17.alloc ob).cell? ⟨w7.heap.size, 0, none⟩ = some (.int .u64 (shM m b o)) := fun _ => keepc (bal _ _) x0
  replace x0 := keepc hb18 x0
  have A_x1 : ∀ ob, (w17.alloc ob).cell? ⟨w7.heap.size, 1, none⟩ = some (.int .u64 b) := fun _ => keepc (bal _ _) x1
  replace x1 := keepc hb18 x1
  have A_xr0 : ∀ ob, (w17.alloc ob).cell? ⟨w9.heap.size, 0, none⟩ = some (.int .u64 (shM m b o)) := fun _ => keepc (bal _ _) xr0
  replace xr0 := keepc hb18 xr0
  have A_xr1 : ∀ ob, (w17.alloc ob).cell? ⟨w9.heap.size, 1, none⟩ = some (.int .u64 b) := fun _ => keepc (bal _ _) xr1
  replace xr1 := keepc hb18 xr1
  have A_c0 : ∀ ob, (w17.alloc ob).cell? ⟨w11.heap.size, 0, none⟩ = some (.int .u64 m) := fun _ => keepc (bal _ _) c0
  replace c0 := keepc hb18 c0
  have A_c1 : ∀ ob, (w17.alloc ob).cell? ⟨w11.heap.size, 1, none⟩ = some (.int .u64 (scB m b o)) := fun _ => keepc (bal _ _) c1
  replace c1 := keepc hb18 c1
  have A_cr0 : ∀ ob, (w17.alloc ob).cell? ⟨w13.heap.size, 0, none⟩ = some (.int .u64 m) := fun _ => keepc (bal _ _) cr0
  replace cr0 := keepc hb18 cr0
  have A_cr1 : ∀ ob, (w17.alloc ob).cell? ⟨w13.heap.size, 1, none⟩ = some (.int .u64 (scB m b o)) := fun _ => keepc (bal _ _) cr1
  replace cr1 := keepc hb18 cr1
  have A_f0 : ∀ ob, (w17.alloc ob).cell? ⟨w15.heap.size, 0, none⟩ = some (.int .u64 (shM m b o)) := fun _ => keepc (bal _ _) f0
  replace f0 := keepc hb18 f0
  have A_f1 : ∀ ob, (w17.alloc ob).cell? ⟨w15.heap.size, 1, none⟩ = some (.int .u64 (frB m b o)) := fun _ => keepc (bal _ _) f1
  replace f1 := keepc hb18 f1
  replace HV := hide (HV.out.below hb18)
  replace hB := bcall hB hb18
  clear hb18
  go_wp2_with fail
  rw [HE18.out]
  clear A_t0 A_t1 A_s0 A_s1 A_r0 A_r1 A_z0 A_z1 A_x0 A_x1 A_xr0 A_xr1 A_c0 A_c1 A_cr0 A_cr1 A_f0 A_f1
  (with_reducible refine (Between_any m b p q hm hb _).mono ?_)
  rintro e w19 ⟨rfl, hb19⟩
  replace t0 := keepc hb19 t0
  replace t1 := keepc hb19 t1
  replace s0 := keepc hb19 s0
  replace s1 := keepc hb19 s1
  replace r0 := keepc hb19 r0
  replace r1 := keepc hb19 r1
  replace z0 := keepc hb19 z0
  replace z1 := keepc hb19 z1
  replace x0 := keepc hb19 x0
  replace x1 := keepc hb19 x1
  replace xr0 := keepc hb19 xr0
  replace xr1 := keepc hb19 xr1
  replace c0 := keepc hb19 c0
  replace c1 := keepc hb19 c1
  replace cr0 := keepc hb19 cr0
  replace cr1 := keepc hb19 cr1
  replace f0 := keepc hb19 f0
  replace f1 := keepc hb19 f1
  replace fr0 := keepc hb19 fr0
  replace fr1 := keepc hb19 fr1
  replace HV := hide (HV.out.below hb19)
  replace hB := bcall hB hb19
  have hs19 := hb19.size
  clear hb19
  go_wp2_with fail
  (with_reducible refine (rBetween_any m b p q hm hb _).mono ?_)
  rintro e w20 ⟨rfl, hb20⟩
  replace t0 := keepc hb20 t0
  replace t1 := keepc hb20 t1
  replace s0 := keepc hb20 s0
  replace s1 := keepc hb20 s1
  replace r0 := keepc hb20 r0
  replace r1 := keepc hb20 r1
  replace z0 := keepc hb20 z0
  replace z1 := keepc hb20 z1
  replace x0 := keepc hb20 x0
  replace x1 := keepc hb20 x1
  replace xr0 := keepc hb20 xr0
  replace xr1 := keepc hb20 xr1
  replace c0 := keepc hb20 c0
  replace c1 := keepc hb20 c1
  replace cr0 := keepc hb20 cr0
  replace cr1 := keepc hb20 cr1
  replace f0 := keepc hb20 f0
  replace f1 := keepc hb20 f1
  replace fr0 := keepc hb20 fr0
  replace fr1 := keepc hb20 fr1
  replace HV := hide (HV.out.below hb20)
  replace hB := bcall hB hb20
  have hs20 := hb20.size
  clear hb20
  have Q_t0 : ∀ pp : BW w20, pp.w.cell? ⟨w.heap.size, 0, none⟩ = some (.int .u64 m) := fun pp => keepc pp.b t0
  have Q_t1 : ∀ pp : BW w20, pp.w.cell? ⟨w.heap.size, 1, none⟩ = some (.int .u64 b) := fun pp => keepc pp.b t1
  have Q_s0 : ∀ pp : BW w20, pp.w.cell? ⟨w.heap.size + 1, 0, none⟩ = some (.int .u64 p) := fun pp => keepc pp.b s0
  have Q_s1 : ∀ pp : BW w20, pp.w.cell? ⟨w.heap.size + 1, 1, none⟩ = some (.int .u64 q) := fun pp => keepc pp.b s1
  have Q_r0 : ∀ pp : BW w20, pp.w.cell? ⟨w3.heap.size, 0, none⟩ = some (.int .u64 m) := fun pp => keepc pp.b r0
  have Q_r1 : ∀ pp : BW w20, pp.w.cell? ⟨w3.heap.size, 1, none⟩ = some (.int .u64 b) := fun pp => keepc pp.b r1
  have Q_z0 : ∀ pp : BW w20, pp.w.cell? ⟨w5.heap.size, 0, none⟩ = some (.int .u64 p) := fun pp => keepc pp.b z0
  have Q_z1 : ∀ pp : BW w20, pp.w.cell? ⟨w5.heap.size, 1, none⟩ = some (.int .u64 q) := fun pp => keepc pp.b z1
  have Q_x0 : ∀ pp : BW w20, pp.w.cell? ⟨w7.heap.size, 0, none⟩ = some (.int .u64 (shM m b o)) := fun pp => keepc pp.b x0
  have Q_x1 : ∀ pp : BW w20, pp.w.cell? ⟨w7.heap.size, 1, none⟩ = some (.int .u64 b) := fun pp => keepc pp.b x1
  have Q_xr0 : ∀ pp : BW w20, pp.w.cell? ⟨w9.heap.size, 0, none⟩ = some (.int .u64 (shM m b o)) := fun pp => keepc pp.b xr0
  have Q_xr1 : ∀ pp : BW w20, pp.w.cell? ⟨w9.heap.size, 1, none⟩ = some (.int .u64 b) := fun pp => keepc pp.b xr1
  have Q_c0 : ∀ pp : BW w20, pp.w.cell? ⟨w11.heap.size, 0, none⟩ = some (.int .u64 m) := fun pp => keepc pp.b c0
  have Q_c1 : ∀ pp : BW w20, pp.w.cell? ⟨w11.heap.size, 1, none⟩ = some (.int .u64 (scB m b o)) := fun pp => keepc pp.b c1
  have Q_cr0 : ∀ pp : BW w20, pp.w.cell? ⟨w13.heap.size, 0, none⟩ = some (.int .u64 m) := fun pp => keepc pp.b cr0
  have Q_cr1 : ∀ pp : BW w20, pp.w.cell? ⟨w13.heap.size, 1, none⟩ = some (.int .u64 (scB m b o)) := fun pp => keepc pp.b cr1
  have Q_f0 : ∀ pp : BW w20, pp.w.cell? ⟨w15.heap.size, 0, none⟩ = some (.int .u64 (shM m b o)) := fun pp => keepc pp.b f0
  have Q_f1 : ∀ pp : BW w20, pp.w.cell? ⟨w15.heap.size, 1, none⟩ = some (.int .u64 (frB m b o)) := fun pp => keepc pp.b f1
  have Q_fr0 : ∀ pp : BW w20, pp.w.cell? ⟨w17.heap.size, 0, none⟩ = some (.int .u64 (shM m b o)) := fun pp => keepc pp.b fr0
  have Q_fr1 : ∀ pp : BW w20, pp.w.cell? ⟨w17.heap.size, 1, none⟩ = some (.int .u64 (frB m b o)) := fun pp => keepc pp.b fr1
  go_wp2
  refine wp_region_below (by kernel_rfl) (by kernel_rfl) ?_
  repeat (go_big_quiet_step (first | (with_reducible refine below_of (refTint_any (shM m b o) b _)) | (with_reducible refine below_of (refTint_any m (scB m b o) _)) | (with_reducible refine below_of (refTint_any (shM m b o) (frB m b o) _))))
  refine wpQuiet_nil ?_
  intro w21 hw'
  obtain ⟨pq_, hq_⟩ := hw'
  have hb21 := pq_.b
  rw [← hq_] at hb21
  clear hq_ pq_
  clear Q_t0 Q_t1 Q_s0 Q_s1 Q_r0 Q_r1 Q_z0 Q_z1 Q_x0 Q_x1 Q_xr0 Q_xr1 Q_c0 Q_c1 Q_cr0 Q_cr1 Q_f0 Q_f1 Q_fr0 Q_fr1
  replace t0 := keepc hb21 t0
  replace t1 := keepc hb21 t1
  replace s0 := keepc hb21 s0
  replace s1 := keepc hb21 s1
  replace r0 := keepc hb21 r0
  replace r1 := keepc hb21 r1
  replace z0 := keepc hb21 z0
  replace z1 := keepc hb21 z1
  replace x0 := keepc hb21 x0
  replace x1 := keepc hb21 x1
  replace xr0 := keepc hb21 xr0
  replace xr1 := keepc hb21 xr1
  replace c0 := keepc hb21 c0
  replace c1 := keepc hb21 c1
  replace cr0 := keepc hb21 cr0
  replace cr1 := keepc hb21 cr1
  replace f0 := keepc hb21 f0
  replace f1 := keepc hb21 f1
  replace fr0 := keepc hb21 fr0
  replace fr1 := keepc hb21 fr1
  replace HV := hide (HV.out.below hb21)
  replace hB := bcall hB hb21
  have hs21 := hb21.size
  clear hb21
  clear x0 x1
  clear xr0 xr1
  clear c0 c1
  clear cr0 cr1
  clear f0 f1
  clear fr0 fr1
  have HVq := hide (fun p : BW w21 => HV.out.below p.b)
  have Q_t0 : ∀ pp : BW w21, pp.w.cell? ⟨w.heap.size, 0, none⟩ = some (.int .u64 m) := fun pp => keepc pp.b t0
  have Q_t1 : ∀ pp : BW w21, pp.w.cell? ⟨w.heap.size, 1, none⟩ = some (.int .u64 b) := fun pp => keepc pp.b t1
  have Q_s0 : ∀ pp : BW w21, pp.w.cell? ⟨w.heap.size + 1, 0, none⟩ = some (.int .u64 p) := fun pp => keepc pp.b s0
  have Q_s1 : ∀ pp : BW w21, pp.w.cell? ⟨w.heap.size + 1, 1, none⟩ = some (.int .u64 q) := fun pp => keepc pp.b s1
  have Q_r0 : ∀ pp : BW w21, pp.w.cell? ⟨w3.heap.size, 0, none⟩ = some (.int .u64 m) := fun pp => keepc pp.b r0
  have Q_r1 : ∀ pp : BW w21, pp.w.cell? ⟨w3.heap.size, 1, none⟩ = some (.int .u64 b) := fun pp => keepc pp.b r1
  have Q_z0 : ∀ pp : BW w21, pp.w.cell? ⟨w5.heap.size, 0, none⟩ = some (.int .u64 p) := fun pp => keepc pp.b z0
  have Q_z1 : ∀ pp : BW w21, pp.w.cell? ⟨w5.heap.size, 1, none⟩ = some (.int .u64 q) := fun pp => keepc pp.b z1
  go_wp2
  refine wp_region_below (by kernel_rfl) (by kernel_rfl) ?_
  repeat (go_big_quiet_step (first | (with_reducible refine below_of (Right_any m b n hm hb (by omega) (by omega) _)) | (with_reducible refine below_of (rRight_any m b n hm hb (by omega) (by omega) _)) | (with_reducible refine below_of (Of_any m b o hm hb (by omega) (by omega) _)) | (with_reducible refine below_of (rOf_any m b o hm hb (by omega) (by omega) _)) | (with_reducible refine below_of (Greys_any m b hm hb _)) | (with_reducible refine below_of (rGreys_any m b hm hb _)) | (with_reducible refine below_of (Text_any m b n hm hb (by omega) (by omega) _ (HVq.out _))) | (with_reducible refine below_of (rText_any m b n hm hb (by omega) (by omega) _))))
  refine wpQuiet_nil ?_
  intro w22 hw'
  obtain ⟨pq_, hq_⟩ := hw'
  have hb22 := pq_.b
  rw [← hq_] at hb22
  clear hq_ pq_
  clear Q_t0 Q_t1 Q_s0 Q_s1 Q_r0 Q_r1 Q_z0 Q_z1
  replace t0 := keepc hb22 t0
  replace t1 := keepc hb22 t1
  replace s0 := keepc hb22 s0
  replace s1 := keepc hb22 s1
  replace r0 := keepc hb22 r0
  replace r1 := keepc hb22 r1
  replace z0 := keepc hb22 z0
  replace z1 := keepc hb22 z1
  replace HV := hide (HV.out.below hb22)
  replace hB := bcall hB hb22
  have hs22 := hb22.size
  clear hb22
  go_wp2
  go_ret
  exact ⟨rfl, hB⟩

set_option maxRecDepth 100000 in
theorem lifted (os : Os) (started : os.Started) (H : Type) (enc : TypeId × Value → H) :
    ReturnsInHanded {} Tryd.checked os 3 .any (fun w args => (Rows.tintTellsSpec.pre enc Tryd.prog Tryd.f3 Rows.tintTellsRow.domain false w args ∧ laidMetH Tryd.prog Rows.tintTellsRow.laid w) ∧ sizedMet enc Tryd.prog Tryd.f3 (OpenSpec.ofChange Rows.tintTellsSpec) false w args) (Rows.tintTellsSpec.post enc Tryd.prog Tryd.f3 false true false false) := by
  refine handed_and_shaped (C := Tryd.checked) (X := fun w _ => laidMetH Tryd.prog Rows.tintTellsRow.laid w) (fun _ _ _ hh h => h.of_heap hh) ownL started (by kernel_rfl) Tryd.func3
    (ChangeSpec.witness_shaped (enc := enc) (C := Tryd.checked) (os := os) (X := fun w _ => laidMetH Tryd.prog Rows.tintTellsRow.laid w) false (World.laidAll Tryd.prog os Rows.tintTellsRow.laid) #[.agg #[.int .u64 0, .int .u64 0], .agg #[.int .u64 0, .int .u64 0], .int .i64 0, .int .i64 0] 8 (World.laidAll_os _ _ _)
      (World.shaped_of_ZipB (by kernel_rfl) (by kernel_rfl)) (by kernel_rfl) (by kernel_rfl) (by kernel_rfl)
      (by rw [MakeChecks.laidMetH_plain _ _ _ (by kernel_rfl)]; exact laidMet_laidAll _ (by kernel_rfl) (by kernel_rfl))) ?_
  intro W base args ds gs before hval0 hW hsz0 hL hsh
  have hval : ∀ (j : Nat) t v, Tryd.f3.params[j]? = some t → args[j]? = some v → Value.okWide Tryd.prog W .any base t v := hval0
  have hW' := hW
  obtain ⟨p, q, hA0, hV, rfl, hfz, hnd⟩ := hW
  have hA : DataW.TrodAll enc Tryd.prog W 0 (fun _ => true) true Tryd.f3.params.toList args.toList ds p := hA0
  rw [Tryd.params3] at hA hval
  obtain ⟨v0, vs0, d0, ds0, p0, q0, hargs, rfl, rfl, h0, r0⟩ := trodAll_cons hA
  obtain ⟨v1, vs1, d1, ds1, p1, q1, rfl, rfl, rfl, h1, r1⟩ := trodAll_cons r0
  obtain ⟨v2, vs2, d2, ds2, p2, q2, rfl, rfl, rfl, h2, r2⟩ := trodAll_cons r1
  obtain ⟨v3, vs3, d3, ds3, p3, q3, rfl, rfl, rfl, h3, r3⟩ := trodAll_cons r2
  obtain ⟨rfl, rfl, rfl⟩ := trodAll_nil r3
  obtain rfl : args = #[v0, v1, v2, v3] := by cases args; simp_all
  obtain ⟨rfl, rfl⟩ := trodVars_none hV
  obtain ⟨m0, b0, rfl, hm0, hb0⟩ := open_tint (hval 0 25 v0 rfl rfl) h0
  obtain ⟨m1, b1, rfl, hm1, hb1⟩ := open_tint (hval 1 25 v1 rfl rfl) h1
  obtain ⟨a2, rfl, rfl, rfl, w2⟩ := open_int Tryd.underlying3 (hval 2 3 v2 rfl rfl) h2
  have hx2 : -9223372036854775808 ≤ a2 ∧ a2 ≤ 9223372036854775807 := by simpa [Lit.wf, IntKind.min, IntKind.max, IntKind.signed, IntKind.bits] using w2
  obtain ⟨a3, rfl, rfl, rfl, w3⟩ := open_int Tryd.underlying3 (hval 3 3 v3 rfl rfl) h3
  have hx3 : -9223372036854775808 ≤ a3 ∧ a3 ≤ 9223372036854775807 := by simpa [Lit.wf, IntKind.min, IntKind.max, IntKind.signed, IntKind.bits] using w3
  have hE := envL_of_laid hL
  refine (walk m0 b0 m1 b1 hm0 hb0 hm1 hb1 a2 a3 hx2 hx3 W hE).mono fun e W' ⟨he, hg⟩ => ?_
  subst he
  exact ⟨_, rfl, law_post laidOutL (by kernel_rfl) rfl Tryd.underlying4 rfl ⟨rfl, rfl, rfl⟩ hW' hg⟩
theorem row_holds : Rows.TintTellsSaid :=
  OpenClaim.holds_of_wide 3 Tryd.f3 rfl rfl rfl rfl rfl rfl rfl ⟨rfl, rfl, rfl, rfl, rfl⟩ rfl rfl rfl rfl rfl (by kernel_rfl) Tryd.func3 (by kernel_rfl)
    (of_decide_eq_true (by kernel_rfl)) (by unfold Func.isWrapper; first | (rw [if_pos (by decide +kernel)]; kernel_rfl) | (rw [if_neg (by decide +kernel)]; exact ⟨rfl, rfl⟩))
    (fun os started H enc _ => lifted os started H enc)

/-- THE STATEMENT -/
theorem proved : Rows.TintTellsCardSaid :=
  Claim7.holds_tied_plain_at .later [] Rows.tintTellsCard.laidKinds true Rows.tintTellsCard.stood.harness Rows.tintTellsCard.stood.looks
    row_holds (fun _ h => by cases h) (by kernel_rfl) (fun _ h => by cases h) tintTells_row_tie rfl ⟨rfl, rfl⟩ (by kernel_rfl) rfl
    (fun f fn hf hfn => by
      obtain rfl : f = 3 := Option.some.inj ((show Tryd.prog.funcNamed Rows.tintTellsRow.func = some 3 by kernel_rfl).symm.trans hf) |>.symm
      obtain rfl : fn = Tryd.f3 := (Option.some.inj (Tryd.func3.symm.trans hfn)).symm
      exact ⟨by kernel_rfl, fun j t ht => by
        rw [Tryd.params3] at ht
        have hm : t ∈ [25, 25, 3, 3] := by simpa using Array.mem_of_getElem? ht
        have hall : ([25, 25, 3, 3].all fun u => !Tryd.prog.wantsStandIn u) = true := by kernel_rfl
        exact (show Tryd.prog.wantsStandIn t = false by simpa using List.all_eq_true.1 hall t hm)⟩)
    (by kernel_rfl)
end Go.Proofs.YtpffknlbffnafaaDoor.lawTintTells
