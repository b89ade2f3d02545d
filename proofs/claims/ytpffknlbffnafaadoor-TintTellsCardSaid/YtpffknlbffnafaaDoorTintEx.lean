/- Layer tint: the chapter's examples, as the statements ask them first. -/
import Derived.Test.YtpffknlbffnafaaDoorTintUse
namespace Go.Proofs.YtpffknlbffnafaaDoor
open Go.RowKit
theorem exLt (n : Nat) (h : n < 16) : n < 18446744073709551616 := by omega
theorem ex_1 (w : World) : Calls Tryd.prog 11 #[.agg #[.int .u64 3, .int .u64 2], .int .i64 3] w fun e w' => e = .returned (.tuple #[.agg #[.int .u64 7, .int .u64 2], .bool true]) ∧ Below w.heap.size w w' :=
  Shade_c 3 2 3 3 2 7 true (exLt _ (by decide)) (exLt _ (by decide)) (by decide) (by decide) rfl rfl (by decide +kernel) (by decide +kernel) w
theorem ex_2 (w : World) : Calls Tryd.prog 11 #[.agg #[.int .u64 3, .int .u64 2], .int .i64 1] w fun e w' => e = .returned (.tuple #[.agg #[.int .u64 3, .int .u64 2], .bool false]) ∧ Below w.heap.size w w' :=
  Shade_c 3 2 1 3 2 3 false (exLt _ (by decide)) (exLt _ (by decide)) (by decide) (by decide) rfl rfl (by decide +kernel) (by decide +kernel) w
theorem ex_3 (w : World) : Calls Tryd.prog 13 #[.agg #[.int .u64 3, .int .u64 2], .int .i64 1] w fun e w' => e = .returned (.tuple #[.agg #[.int .u64 3, .int .u64 3], .bool true]) ∧ Below w.heap.size w w' :=
  Scan_c 3 2 1 3 2 3 true (exLt _ (by decide)) (exLt _ (by decide)) (by decide) (by decide) rfl rfl (by decide +kernel) (by decide +kernel) w
theorem ex_4 (w : World) : Calls Tryd.prog 13 #[.agg #[.int .u64 3, .int .u64 2], .int .i64 2] w fun e w' => e = .returned (.tuple #[.agg #[.int .u64 3, .int .u64 2], .bool false]) ∧ Below w.heap.size w w' :=
  Scan_c 3 2 2 3 2 2 false (exLt _ (by decide)) (exLt _ (by decide)) (by decide) (by decide) rfl rfl (by decide +kernel) (by decide +kernel) w
theorem ex_5 (w : World) : Calls Tryd.prog 15 #[.agg #[.int .u64 3, .int .u64 2], .int .i64 4] w fun e w' => e = .returned (.tuple #[.agg #[.int .u64 11, .int .u64 10], .bool true]) ∧ Below w.heap.size w w' :=
  Fresh_c 3 2 4 3 2 11 10 true (exLt _ (by decide)) (exLt _ (by decide)) (by decide) (by decide) rfl rfl (by decide +kernel) (by decide +kernel) (by decide +kernel) w
theorem ex_6 (w : World) : Calls Tryd.prog 17 #[.agg #[.int .u64 3, .int .u64 2], .agg #[.int .u64 7, .int .u64 2]] w fun e w' => e = .returned (.tuple #[.int .i64 1, .int .i64 3]) ∧ Below w.heap.size w w' :=
  Between_c 3 2 7 2 3 2 7 2 1 3 (exLt _ (by decide)) (exLt _ (by decide)) rfl rfl rfl rfl (by decide +kernel) (by decide +kernel) w
theorem ex_7 (w : World) : Calls Tryd.prog 17 #[.agg #[.int .u64 3, .int .u64 2], .agg #[.int .u64 11, .int .u64 10]] w fun e w' => e = .returned (.tuple #[.int .i64 3, .int .i64 4]) ∧ Below w.heap.size w w' :=
  Between_c 3 2 11 10 3 2 11 10 3 4 (exLt _ (by decide)) (exLt _ (by decide)) rfl rfl rfl rfl (by decide +kernel) (by decide +kernel) w
theorem ex_8 (w : World) : Calls Tryd.prog 17 #[.agg #[.int .u64 7, .int .u64 2], .agg #[.int .u64 3, .int .u64 2]] w fun e w' => e = .returned (.tuple #[.int .i64 (-1), .int .i64 0]) ∧ Below w.heap.size w w' :=
  Between_c 7 2 3 2 7 2 3 2 (-1) 0 (exLt _ (by decide)) (exLt _ (by decide)) rfl rfl rfl rfl (by decide +kernel) (by decide +kernel) w
theorem ex_9 (w : World) (hE : EnvL w) : Calls Tryd.prog 25 #[.agg #[.int .u64 3, .int .u64 2], .int .i64 3] w fun e w' => e = .returned (.string ⟨#[103, 98, 119]⟩) ∧ Below w.heap.size w w' :=
  Text_c 3 2 3 3 2 [103, 98, 119] (exLt _ (by decide)) (exLt _ (by decide)) (by decide) (by decide) rfl rfl (by decide +kernel) w hE
theorem ex_10 (w : World) : Calls Tryd.prog 21 #[.agg #[.int .u64 3, .int .u64 2], .int .i64 1] w fun e w' => e = .returned (.int .i64 1) ∧ Below w.heap.size w w' :=
  Of_c 3 2 1 3 2 1 (exLt _ (by decide)) (exLt _ (by decide)) (by decide) (by decide) rfl rfl (by decide +kernel) w
theorem ex_11 (w : World) : Calls Tryd.prog 21 #[.agg #[.int .u64 3, .int .u64 2], .int .i64 0] w fun e w' => e = .returned (.int .i64 0) ∧ Below w.heap.size w w' :=
  Of_c 3 2 0 3 2 0 (exLt _ (by decide)) (exLt _ (by decide)) (by decide) (by decide) rfl rfl (by decide +kernel) w
theorem ex_12 (w : World) : Calls Tryd.prog 23 #[.agg #[.int .u64 3, .int .u64 2]] w fun e w' => e = .returned (.int .u64 1) ∧ Below w.heap.size w w' :=
  Greys_c 3 2 3 2 1 (exLt _ (by decide)) (exLt _ (by decide)) rfl rfl (by decide +kernel) w
theorem ex_13 (w : World) : Calls Tryd.prog 19 #[.agg #[.int .u64 3, .int .u64 2], .int .i64 2] w fun e w' => e = .returned (.bool true) ∧ Below w.heap.size w w' :=
  Right_c 3 2 2 3 2 true (exLt _ (by decide)) (exLt _ (by decide)) (by decide) (by decide) rfl rfl (by decide +kernel) w
theorem ex_14 (w : World) : Calls Tryd.prog 19 #[.agg #[.int .u64 3, .int .u64 2], .int .i64 1] w fun e w' => e = .returned (.bool false) ∧ Below w.heap.size w w' :=
  Right_c 3 2 1 3 2 false (exLt _ (by decide)) (exLt _ (by decide)) (by decide) (by decide) rfl rfl (by decide +kernel) w
theorem ex_15 (w : World) : Calls Tryd.prog 19 #[.agg #[.int .u64 0, .int .u64 1], .int .i64 4] w fun e w' => e = .returned (.bool false) ∧ Below w.heap.size w w' :=
  Right_c 0 1 4 0 1 false (exLt _ (by decide)) (exLt _ (by decide)) (by decide) (by decide) rfl rfl (by decide +kernel) w
set_option maxRecDepth 100000 in
set_option maxHeartbeats 8000000 in
theorem examples_any (w : World) (hE : EnvL w) : Calls Tryd.prog 9 #[] w fun e w' => e = .returned (.bool true) ∧ Below w.heap.size w w' := by
  have hB : Below w.heap.size w w := Below.refl _ _
  have HV := hide hE
  clear hE
  go_enter Tryd.func9, Tryd.ntmps9
  obtain ⟨w1, e1, hb1, hs1, t0, t1, -, -⟩ := box1 w (.int .u64 3) (.int .u64 2) 25
  have HE1 := hide e1
  clear e1
  replace HV := hide (HV.out.below hb1)
  replace hB := bcall hB hb1
  clear hb1
  go_wp2_with fail
  rw [HE1.out]
  (with_reducible refine (ex_1 _).mono ?_)
  rintro e w2 ⟨rfl, hb2⟩
  replace t0 := keepc hb2 t0
  replace t1 := keepc hb2 t1
  replace HV := hide (HV.out.below hb2)
  replace hB := bcall hB hb2
  have hs2 := hb2.size
  clear hb2
  obtain ⟨w3, e3, hb3, hs3, a0, a1, -, -⟩ := box1 w2 (.int .u64 7) (.int .u64 2) 25
  have HE3 := hide e3
  clear e3
  have A_t0 : ∀ ob, (w2.alloc ob).cell? ⟨w.heap.size, 0, none⟩ = some (.int .u64 3) := fun _ => keepc (bal _ _) t0
  replace t0 := keepc hb3 t0
  have A_t1 : ∀ ob, (w2.alloc ob).cell? ⟨w.heap.size, 1, none⟩ = some (.int .u64 2) := fun _ => keepc (bal _ _) t1
  replace t1 := keepc hb3 t1
  replace HV := hide (HV.out.below hb3)
  replace hB := bcall hB hb3
  clear hb3
  go_wp2_with fail
  rw [HE3.out]
  clear A_t0 A_t1
  (with_reducible refine (ex_2 _).mono ?_)
  rintro e w4 ⟨rfl, hb4⟩
  replace t0 := keepc hb4 t0
  replace t1 := keepc hb4 t1
  replace a0 := keepc hb4 a0
  replace a1 := keepc hb4 a1
  replace HV := hide (HV.out.below hb4)
  replace hB := bcall hB hb4
  have hs4 := hb4.size
  clear hb4
  obtain ⟨w5, e5, hb5, hs5, j0, j1, -, -⟩ := box1 w4 (.int .u64 3) (.int .u64 2) 25
  have HE5 := hide e5
  clear e5
  have A_t0 : ∀ ob, (w4.alloc ob).cell? ⟨w.heap.size, 0, none⟩ = some (.int .u64 3) := fun _ => keepc (bal _ _) t0
  replace t0 := keepc hb5 t0
  have A_t1 : ∀ ob, (w4.alloc ob).cell? ⟨w.heap.size, 1, none⟩ = some (.int .u64 2) := fun _ => keepc (bal _ _) t1
  replace t1 := keepc hb5 t1
  have A_a0 : ∀ ob, (w4.alloc ob).cell? ⟨w2.heap.size, 0, none⟩ = some (.int .u64 7) := fun _ => keepc (bal _ _) a0
  replace a0 := keepc hb5 a0
  have A_a1 : ∀ ob, (w4.alloc ob).cell? ⟨w2.heap.size, 1, none⟩ = some (.int .u64 2) := fun _ => keepc (bal _ _) a1
  replace a1 := keepc hb5 a1
  replace HV := hide (HV.out.below hb5)
  replace hB := bcall hB hb5
  clear hb5
  clear j0 j1
  go_wp2_with fail
  rw [HE5.out]
  clear A_t0 A_t1 A_a0 A_a1
  (with_reducible refine (ex_3 _).mono ?_)
  rintro e w6 ⟨rfl, hb6⟩
  replace t0 := keepc hb6 t0
  replace t1 := keepc hb6 t1
  replace a0 := keepc hb6 a0
  replace a1 := keepc hb6 a1
  replace HV := hide (HV.out.below hb6)
  replace hB := bcall hB hb6
  have hs6 := hb6.size
  clear hb6
  obtain ⟨w7, e7, hb7, hs7, b0, b1, -, -⟩ := box1 w6 (.int .u64 3) (.int .u64 3) 25
  have HE7 := hide e7
  clear e7
  have A_t0 : ∀ ob, (w6.alloc ob).cell? ⟨w.heap.size, 0, none⟩ = some (.int .u64 3) := fun _ => keepc (bal _ _) t0
  replace t0 := keepc hb7 t0
  have A_t1 : ∀ ob, (w6.alloc ob).cell? ⟨w.heap.size, 1, none⟩ = some (.int .u64 2) := fun _ => keepc (bal _ _) t1
  replace t1 := keepc hb7 t1
  have A_a0 : ∀ ob, (w6.alloc ob).cell? ⟨w2.heap.size, 0, none⟩ = some (.int .u64 7) := fun _ => keepc (bal _ _) a0
  replace a0 := keepc hb7 a0
  have A_a1 : ∀ ob, (w6.alloc ob).cell? ⟨w2.heap.size, 1, none⟩ = some (.int .u64 2) := fun _ => keepc (bal _ _) a1
  replace a1 := keepc hb7 a1
  replace HV := hide (HV.out.below hb7)
  replace hB := bcall hB hb7
  clear hb7
  go_wp2_with fail
  rw [HE7.out]
  clear A_t0 A_t1 A_a0 A_a1
  (with_reducible refine (ex_4 _).mono ?_)
  rintro e w8 ⟨rfl, hb8⟩
  replace t0 := keepc hb8 t0
  replace t1 := keepc hb8 t1
  replace a0 := keepc hb8 a0
  replace a1 := keepc hb8 a1
  replace b0 := keepc hb8 b0
  replace b1 := keepc hb8 b1
  replace HV := hide (HV.out.below hb8)
  replace hB := bcall hB hb8
  have hs8 := hb8.size
  clear hb8
  obtain ⟨w9, e9, hb9, hs9, j0, j1, -, -⟩ := box1 w8 (.int .u64 3) (.int .u64 2) 25
  have HE9 := hide e9
  clear e9
  have A_t0 : ∀ ob, (w8.alloc ob).cell? ⟨w.heap.size, 0, none⟩ = some (.int .u64 3) := fun _ => keepc (bal _ _) t0
  replace t0 := keepc hb9 t0
  have A_t1 : ∀ ob, (w8.alloc ob).cell? ⟨w.heap.size, 1, none⟩ = some (.int .u64 2) := fun _ => keepc (bal _ _) t1
  replace t1 := keepc hb9 t1
  have A_a0 : ∀ ob, (w8.alloc ob).cell? ⟨w2.heap.size, 0, none⟩ = some (.int .u64 7) := fun _ => keepc (bal _ _) a0
  replace a0 := keepc hb9 a0
  have A_a1 : ∀ ob, (w8.alloc ob).cell? ⟨w2.heap.size, 1, none⟩ = some (.int .u64 2) := fun _ => keepc (bal _ _) a1
  replace a1 := keepc hb9 a1
  have A_b0 : ∀ ob, (w8.alloc ob).cell? ⟨w6.heap.size, 0, none⟩ = some (.int .u64 3) := fun _ => keepc (bal _ _) b0
  replace b0 := keepc hb9 b0
  have A_b1 : ∀ ob, (w8.alloc ob).cell? ⟨w6.heap.size, 1, none⟩ = some (.int .u64 3) := fun _ => keepc (bal _ _) b1
  replace b1 := keepc hb9 b1
  replace HV := hide (HV.out.below hb9)
  replace hB := bcall hB hb9
  clear hb9
  clear j0 j1
  go_wp2_with fail
  rw [HE9.out]
  clear A_t0 A_t1 A_a0 A_a1 A_b0 A_b1
  (with_reducible refine (ex_5 _).mono ?_)
  rintro e w10 ⟨rfl, hb10⟩
  replace t0 := keepc hb10 t0
  replace t1 := keepc hb10 t1
  replace a0 := keepc hb10 a0
  replace a1 := keepc hb10 a1
  replace b0 := keepc hb10 b0
  replace b1 := keepc hb10 b1
  replace HV := hide (HV.out.below hb10)
  replace hB := bcall hB hb10
  have hs10 := hb10.size
  clear hb10
  obtain ⟨w11, e11, hb11, hs11, c0, c1, -, -⟩ := box1 w10 (.int .u64 11) (.int .u64 10) 25
  have HE11 := hide e11
  clear e11
  have A_t0 : ∀ ob, (w10.alloc ob).cell? ⟨w.heap.size, 0, none⟩ = some (.int .u64 3) := fun _ => keepc (bal _ _) t0
  replace t0 := keepc hb11 t0
  have A_t1 : ∀ ob, (w10.alloc ob).cell? ⟨w.heap.size, 1, none⟩ = some (.int .u64 2) := fun _ => keepc (bal _ _) t1
  replace t1 := keepc hb11 t1
  have A_a0 : ∀ ob, (w10.alloc ob).cell? ⟨w2.heap.size, 0, none⟩ = some (.int .u64 7) := fun _ => keepc (bal _ _) a0
  replace a0 := keepc hb11 a0
  have A_a1 : ∀ ob, (w10.alloc ob).cell? ⟨w2.heap.size, 1, none⟩ = some (.int .u64 2) := fun _ => keepc (bal _ _) a1
  replace a1 := keepc hb11 a1
  have A_b0 : ∀ ob, (w10.alloc ob).cell? ⟨w6.heap.size, 0, none⟩ = some (.int .u64 3) := fun _ => keepc (bal _ _) b0
  replace b0 := keepc hb11 b0
  have A_b1 : ∀ ob, (w10.alloc ob).cell? ⟨w6.heap.size, 1, none⟩ = some (.int .u64 3) := fun _ => keepc (bal _ _) b1
  replace b1 := keepc hb11 b1
  replace HV := hide (HV.out.below hb11)
  replace hB := bcall hB hb11
  clear hb11
  go_wp2_with fail
  rw [HE11.out]
  clear A_t0 A_t1 A_a0 A_a1 A_b0 A_b1
  (with_reducible refine (ex_6 _).mono ?_)
  rintro e w12 ⟨rfl, hb12⟩
  replace t0 := keepc hb12 t0
  replace t1 := keepc hb12 t1
  replace a0 := keepc hb12 a0
  replace a1 := keepc hb12 a1
  replace b0 := keepc hb12 b0
  replace b1 := keepc hb12 b1
  replace c0 := keepc hb12 c0
  replace c1 := keepc hb12 c1
  replace HV := hide (HV.out.below hb12)
  replace hB := bcall hB hb12
  have hs12 := hb12.size
  clear hb12
  go_wp2_with fail
  (with_reducible refine (ex_7 _).mono ?_)
  rintro e w13 ⟨rfl, hb13⟩
  replace t0 := keepc hb13 t0
  replace t1 := keepc hb13 t1
  replace a0 := keepc hb13 a0
  replace a1 := keepc hb13 a1
  replace b0 := keepc hb13 b0
  replace b1 := keepc hb13 b1
  replace c0 := keepc hb13 c0
  replace c1 := keepc hb13 c1
  replace HV := hide (HV.out.below hb13)
  replace hB := bcall hB hb13
  have hs13 := hb13.size
  clear hb13
  go_wp2_with fail
  (with_reducible refine (ex_8 _).mono ?_)
  rintro e w14 ⟨rfl, hb14⟩
  replace t0 := keepc hb14 t0
  replace t1 := keepc hb14 t1
  replace a0 := keepc hb14 a0
  replace a1 := keepc hb14 a1
  replace b0 := keepc hb14 b0
  replace b1 := keepc hb14 b1
  replace c0 := keepc hb14 c0
  replace c1 := keepc hb14 c1
  replace HV := hide (HV.out.below hb14)
  replace hB := bcall hB hb14
  have hs14 := hb14.size
  clear hb14
  go_wp2_with fail
  (with_reducible refine (ex_9 _ HV.out).mono ?_)
  rintro e w15 ⟨rfl, hb15⟩
  replace t0 := keepc hb15 t0
  replace t1 := keepc hb15 t1
  replace a0 := keepc hb15 a0
  replace a1 := keepc hb15 a1
  replace b0 := keepc hb15 b0
  replace b1 := keepc hb15 b1
  replace c0 := keepc hb15 c0
  replace c1 := keepc hb15 c1
  replace HV := hide (HV.out.below hb15)
  replace hB := bcall hB hb15
  have hs15 := hb15.size
  clear hb15
  go_wp2_with fail
  (with_reducible refine (ex_10 _).mono ?_)
  rintro e w16 ⟨rfl, hb16⟩
  replace t0 := keepc hb16 t0
  replace t1 := keepc hb16 t1
  replace a0 := keepc hb16 a0
  replace a1 := keepc hb16 a1
  replace b0 := keepc hb16 b0
  replace b1 := keepc hb16 b1
  replace c0 := keepc hb16 c0
  replace c1 := keepc hb16 c1
  replace HV := hide (HV.out.below hb16)
  replace hB := bcall hB hb16
  have hs16 := hb16.size
  clear hb16
  go_wp2_with fail
  (with_reducible refine (ex_11 _).mono ?_)
  rintro e w17 ⟨rfl, hb17⟩
  replace t0 := keepc hb17 t0
  replace t1 := keepc hb17 t1
  replace a0 := keepc hb17 a0
  replace a1 := keepc hb17 a1
  replace b0 := keepc hb17 b0
  replace b1 := keepc hb17 b1
  replace c0 := keepc hb17 c0
  replace c1 := keepc hb17 c1
  replace HV := hide (HV.out.below hb17)
  replace hB := bcall hB hb17
  have hs17 := hb17.size
  clear hb17
  go_wp2_with fail
  (with_reducible refine (ex_12 _).mono ?_)
  rintro e w18 ⟨rfl, hb18⟩
  replace t0 := keepc hb18 t0
  replace t1 := keepc hb18 t1
  replace a0 := keepc hb18 a0
  replace a1 := keepc hb18 a1
  replace b0 := keepc hb18 b0
  replace b1 := keepc hb18 b1
  replace c0 := keepc hb18 c0
  replace c1 := keepc hb18 c1
  replace HV := hide (HV.out.below hb18)
  replace hB := bcall hB hb18
  have hs18 := hb18.size
  clear hb18
  go_wp2_with fail
  (with_reducible refine (ex_13 _).mono ?_)
  rintro e w19 ⟨rfl, hb19⟩
  replace t0 := keepc hb19 t0
  replace t1 := keepc hb19 t1
  replace a0 := keepc hb19 a0
  replace a1 := keepc hb19 a1
  replace b0 := keepc hb19 b0
  replace b1 := keepc hb19 b1
  replace c0 := keepc hb19 c0
  replace c1 := keepc hb19 c1
  replace HV := hide (HV.out.below hb19)
  replace hB := bcall hB hb19
  have hs19 := hb19.size
  clear hb19
  go_wp2_with fail
  (with_reducible refine (ex_14 _).mono ?_)
  rintro e w20 ⟨rfl, hb20⟩
  replace t0 := keepc hb20 t0
  replace t1 := keepc hb20 t1
  replace a0 := keepc hb20 a0
  replace a1 := keepc hb20 a1
  replace b0 := keepc hb20 b0
  replace b1 := keepc hb20 b1
  replace c0 := keepc hb20 c0
  replace c1 := keepc hb20 c1
  replace HV := hide (HV.out.below hb20)
  replace hB := bcall hB hb20
  have hs20 := hb20.size
  clear hb20
  go_wp2_with fail
  (with_reducible refine (ex_15 _).mono ?_)
  rintro e w21 ⟨rfl, hb21⟩
  replace t0 := keepc hb21 t0
  replace t1 := keepc hb21 t1
  replace a0 := keepc hb21 a0
  replace a1 := keepc hb21 a1
  replace b0 := keepc hb21 b0
  replace b1 := keepc hb21 b1
  replace c0 := keepc hb21 c0
  replace c1 := keepc hb21 c1
  replace HV := hide (HV.out.below hb21)
  replace hB := bcall hB hb21
  have hs21 := hb21.size
  clear hb21
  go_wp2
  go_ret
  exact ⟨rfl, hB⟩
end Go.Proofs.YtpffknlbffnafaaDoor
