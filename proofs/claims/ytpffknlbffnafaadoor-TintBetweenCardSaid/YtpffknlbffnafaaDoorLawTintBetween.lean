/- TintBetween: of any two sets, a number and which: what leads from one to the other is told; the other way round there is none, but of the same. No condition beside the listed tables, which the card ties to the text. -/
import Derived.Test.YtpffknlbffnafaaDoorTintStore
namespace Go.Proofs.YtpffknlbffnafaaDoor.lawTintBetween
open Go.RowKit Go.WideShapes Go.ChangeShapes Go.ChangeAt Go.Shelf Go.Proofs Go.Proofs.YtpffknlbffnafaaDoor

set_option maxRecDepth 100000 in
set_option maxHeartbeats 8000000 in
theorem walk (n0 n1 : Nat) (l0 : n0 < 18446744073709551616) (l1 : n1 < 18446744073709551616) (a2 : Int) (ha2 : 0 ≤ a2 ∧ a2 ≤ 255) (a3 : Int) (ha3 : 0 ≤ a3 ∧ a3 ≤ 255) (w : World) (hE : EnvL w) : Calls Tryd.prog 6 #[.int .u64 n0, .int .u64 n1, .int .u8 a2, .int .u8 a3] w fun e w' => e = .returned (.bool true) ∧ Below w.heap.size w w' := by
  obtain ⟨y, hy⟩ : ∃ y, a2.tmod 64 = y := ⟨_, rfl⟩
  have hy0 : 0 ≤ y ∧ y ≤ 63 := by rw [Int.tmod_eq_emod_of_nonneg ha2.1] at hy; omega
  obtain ⟨y0, y1⟩ := hy0
  obtain ⟨z0, z1⟩ := ha2
  obtain ⟨x, hx⟩ : ∃ x, 1 + y = x := ⟨_, rfl⟩
  have x0 : 1 ≤ x := by omega
  have x1 : x ≤ 64 := by omega
  have lb : n0 &&& n1 < 18446744073709551616 := and_lt' n1 l0
  have hu := hide (under_and n0 n1 l0)
  obtain ⟨b, hbb⟩ : ∃ b, n0 &&& n1 = b := ⟨_, rfl⟩
  rw [hbb] at lb hu
  have HBB := hide hbb
  clear hbb
  rcases (show a3 % 3 = 0 ∨ a3 % 3 = 1 ∨ a3 % 3 = 2 by omega) with hk3 | hk3 | hk3
  · have hk : a3.tmod 3 = 0 := by rw [Int.tmod_eq_emod_of_nonneg ha3.1]; exact hk3
    clear hk3
    obtain ⟨z2, z3⟩ := ha3
    cases hF : tFree n0 b x
    · have hB : Below w.heap.size w w := Below.refl _ _
      have HV := hide hE
      clear hE
      have F1 := hide hF
      have G := between_self n0 b
      have G1 := hide (show (0 : Int) = (tBetween n0 b n0 b).1 by rw [G])
      have G2 := hide (show (0 : Int) = (tBetween n0 b n0 b).2 by rw [G])
      clear G
      have E := tk_no (k := 1) hF
      have E1 := hide (show ((n0 : Nat) : Int) = ((shM n0 b x : Nat) : Int) from congrArg Nat.cast E.1.symm)
      have E2 := hide (show ((b : Nat) : Int) = ((b : Nat) : Int) from congrArg Nat.cast E.2.symm)
      clear E
      clear hF
      go_enter Tryd.func6, Tryd.ntmps6
      go_wp2_with fail
      (with_reducible refine (examples_any _ HV.out).mono ?_)
      rintro e w1 ⟨rfl, hb1⟩
      replace HV := hide (HV.out.below hb1)
      replace hB := bcall hB hb1
      have hs1 := hb1.size
      clear hb1
      go_wp2_with fail
      (with_reducible refine (some_any n0 n1 l0 l1 _).mono ?_)
      rintro e w2 ⟨rfl, hb2⟩
      replace HV := hide (HV.out.below hb2)
      replace hB := bcall hB hb2
      have hs2 := hb2.size
      clear hb2
      rw [HBB.out]
      obtain ⟨w3, e3, hb3, hs3, t0, t1, u0, u1, -, -, gu0, gu1⟩ := box3 w2 (.int .u64 n0) (.int .u64 b) (.int .u64 n0) (.int .u64 b) 25
      have HE3 := hide e3
      clear e3
      replace hB := bcall hB hb3
      clear hb3
      go_wp2_with fail
      rw [HE3.out]
      (with_reducible refine (Shade_c n0 b x _ _ ((n0 : Nat) : Int) false l0 lb (by omega) (by omega) rfl rfl E1.out F1.out.symm _).mono ?_)
      rintro e w4 ⟨rfl, hb4⟩
      replace gu0 := keepf hb4 u0 gu0
      replace gu1 := keepf hb4 u1 gu1
      replace t0 := keepc hb4 t0
      replace t1 := keepc hb4 t1
      replace u0 := keepc hb4 u0
      replace u1 := keepc hb4 u1
      replace hB := bcall hB hb4
      have hs4 := hb4.size
      clear hb4
      have ne5_0 : ¬ w2.heap.size = w2.heap.size + 1 := by omega
      have nf5_0 : ¬ w2.heap.size + 1 = w2.heap.size := by omega
      obtain ⟨w5, e5, qu0, qu1, hb5, hs5⟩ := box_store (n := .int .u64 n0) (v := .int .u64 b) u0 u1 gu0 gu1
      have HE5 := hide e5
      clear e5
      have K_t0 := keeps hb5 (p := ⟨w2.heap.size, 0, none⟩) (show w2.heap.size < w2.heap.size + 1 by omega) (show w2.heap.size + 1 ≤ w4.heap.size by omega) t0
      have K_t1 := keeps hb5 (p := ⟨w2.heap.size, 1, none⟩) (show w2.heap.size < w2.heap.size + 1 by omega) (show w2.heap.size + 1 ≤ w4.heap.size by omega) t1
      go_wp2_with fail
      rw [HE5.out]
      clear u0 u1 gu0 gu1 t0 t1
      have t0 := K_t0
      have t1 := K_t1
      have u0 := qu0
      have u1 := qu1
      clear K_t0 K_t1
      clear qu0 qu1
      replace hB := Below.trans hB (hb5.mono (show w.heap.size ≤ w2.heap.size + 1 by omega))
      clear hb5
      skip
      (with_reducible refine (Between_c n0 b n0 b _ _ _ _ 0 0 l0 lb rfl rfl rfl rfl G1.out G2.out _).mono ?_)
      rintro e w6 ⟨rfl, hb6⟩
      replace t0 := keepc hb6 t0
      replace t1 := keepc hb6 t1
      replace u0 := keepc hb6 u0
      replace u1 := keepc hb6 u1
      replace hB := bcall hB hb6
      have hs6 := hb6.size
      clear hb6
      go_wp2_with fail
      (with_reducible refine (Between_c n0 b n0 b _ _ _ _ 0 0 l0 lb rfl rfl rfl rfl G1.out G2.out _).mono ?_)
      rintro e w7 ⟨rfl, hb7⟩
      replace t0 := keepc hb7 t0
      replace t1 := keepc hb7 t1
      replace u0 := keepc hb7 u0
      replace u1 := keepc hb7 u1
      replace hB := bcall hB hb7
      have hs7 := hb7.size
      clear hb7
      go_wp2
      go_ret
      exact ⟨rfl, hB⟩
    · have hB : Below w.heap.size w w := Below.refl _ _
      have HV := hide hE
      clear hE
      have F1 := hide hF
      have G := show tBetween n0 b (shM n0 b x) b = (1, x) from between_hit (k := 1) (by decide) hF
      have H := show tBetween (shM n0 b x) b n0 b = (-1, 0) from between_back (k := 1) (by decide) l0 lb hF
      have G1 := hide (show (1 : Int) = (tBetween n0 b (shM n0 b x) b).1 by rw [G])
      have G2 := hide (show x = (tBetween n0 b (shM n0 b x) b).2 by rw [G])
      have H1 := hide (show (-1 : Int) = (tBetween (shM n0 b x) b n0 b).1 by rw [H])
      have H2 := hide (show (0 : Int) = (tBetween (shM n0 b x) b n0 b).2 by rw [H])
      clear G H
      have lp : shM n0 b x < 18446744073709551616 := tkM_lt 1 b x l0
      have lq : b < 18446744073709551616 := tkB_lt 1 n0 x lb
      clear hF
      go_enter Tryd.func6, Tryd.ntmps6
      go_wp2_with fail
      (with_reducible refine (examples_any _ HV.out).mono ?_)
      rintro e w1 ⟨rfl, hb1⟩
      replace HV := hide (HV.out.below hb1)
      replace hB := bcall hB hb1
      have hs1 := hb1.size
      clear hb1
      go_wp2_with fail
      (with_reducible refine (some_any n0 n1 l0 l1 _).mono ?_)
      rintro e w2 ⟨rfl, hb2⟩
      replace HV := hide (HV.out.below hb2)
      replace hB := bcall hB hb2
      have hs2 := hb2.size
      clear hb2
      rw [HBB.out]
      obtain ⟨w3, e3, hb3, hs3, t0, t1, u0, u1, -, -, gu0, gu1⟩ := box3 w2 (.int .u64 n0) (.int .u64 b) (.int .u64 n0) (.int .u64 b) 25
      have HE3 := hide e3
      clear e3
      replace hB := bcall hB hb3
      clear hb3
      go_wp2_with fail
      rw [HE3.out]
      (with_reducible refine (Shade_c n0 b x _ _ ((shM n0 b x : Nat) : Int) true l0 lb (by omega) (by omega) rfl rfl rfl F1.out.symm _).mono ?_)
      rintro e w4 ⟨rfl, hb4⟩
      replace gu0 := keepf hb4 u0 gu0
      replace gu1 := keepf hb4 u1 gu1
      replace t0 := keepc hb4 t0
      replace t1 := keepc hb4 t1
      replace u0 := keepc hb4 u0
      replace u1 := keepc hb4 u1
      replace hB := bcall hB hb4
      have hs4 := hb4.size
      clear hb4
      have ne5_0 : ¬ w2.heap.size = w2.heap.size + 1 := by omega
      have nf5_0 : ¬ w2.heap.size + 1 = w2.heap.size := by omega
      obtain ⟨w5, e5, qu0, qu1, hb5, hs5⟩ := box_store (n := .int .u64 (shM n0 b x)) (v := .int .u64 b) u0 u1 gu0 gu1
      have HE5 := hide e5
      clear e5
      have K_t0 := keeps hb5 (p := ⟨w2.heap.size, 0, none⟩) (show w2.heap.size < w2.heap.size + 1 by omega) (show w2.heap.size + 1 ≤ w4.heap.size by omega) t0
      have K_t1 := keeps hb5 (p := ⟨w2.heap.size, 1, none⟩) (show w2.heap.size < w2.heap.size + 1 by omega) (show w2.heap.size + 1 ≤ w4.heap.size by omega) t1
      go_wp2_with fail
      rw [HE5.out]
      clear u0 u1 gu0 gu1 t0 t1
      have t0 := K_t0
      have t1 := K_t1
      have u0 := qu0
      have u1 := qu1
      clear K_t0 K_t1
      clear qu0 qu1
      replace hB := Below.trans hB (hb5.mono (show w.heap.size ≤ w2.heap.size + 1 by omega))
      clear hb5
      skip
      (with_reducible refine (Between_c n0 b (shM n0 b x) b _ _ _ _ 1 x l0 lb rfl rfl rfl rfl G1.out G2.out _).mono ?_)
      rintro e w6 ⟨rfl, hb6⟩
      replace t0 := keepc hb6 t0
      replace t1 := keepc hb6 t1
      replace u0 := keepc hb6 u0
      replace u1 := keepc hb6 u1
      replace hB := bcall hB hb6
      have hs6 := hb6.size
      clear hb6
      go_wp2_with fail
      (with_reducible refine (Between_c (shM n0 b x) b n0 b _ _ _ _ (-1) 0 lp lq rfl rfl rfl rfl H1.out H2.out _).mono ?_)
      rintro e w7 ⟨rfl, hb7⟩
      replace t0 := keepc hb7 t0
      replace t1 := keepc hb7 t1
      replace u0 := keepc hb7 u0
      replace u1 := keepc hb7 u1
      replace hB := bcall hB hb7
      have hs7 := hb7.size
      clear hb7
      go_wp2
      go_ret
      exact ⟨rfl, hB⟩
  · have hk : a3.tmod 3 = 1 := by rw [Int.tmod_eq_emod_of_nonneg ha3.1]; exact hk3
    clear hk3
    obtain ⟨z2, z3⟩ := ha3
    cases hF : tGrey n0 b x
    · have hB : Below w.heap.size w w := Below.refl _ _
      have HV := hide hE
      clear hE
      have F1 := hide hF
      have G := between_self n0 b
      have G1 := hide (show (0 : Int) = (tBetween n0 b n0 b).1 by rw [G])
      have G2 := hide (show (0 : Int) = (tBetween n0 b n0 b).2 by rw [G])
      clear G
      have E := tk_no (k := 2) hF
      have E1 := hide (show ((n0 : Nat) : Int) = ((n0 : Nat) : Int) from congrArg Nat.cast E.1.symm)
      have E2 := hide (show ((b : Nat) : Int) = ((scB n0 b x : Nat) : Int) from congrArg Nat.cast E.2.symm)
      clear E
      clear hF
      go_enter Tryd.func6, Tryd.ntmps6
      go_wp2_with fail
      (with_reducible refine (examples_any _ HV.out).mono ?_)
      rintro e w1 ⟨rfl, hb1⟩
      replace HV := hide (HV.out.below hb1)
      replace hB := bcall hB hb1
      have hs1 := hb1.size
      clear hb1
      go_wp2_with fail
      (with_reducible refine (some_any n0 n1 l0 l1 _).mono ?_)
      rintro e w2 ⟨rfl, hb2⟩
      replace HV := hide (HV.out.below hb2)
      replace hB := bcall hB hb2
      have hs2 := hb2.size
      clear hb2
      rw [HBB.out]
      obtain ⟨w3, e3, hb3, hs3, t0, t1, u0, u1, -, -, gu0, gu1⟩ := box3 w2 (.int .u64 n0) (.int .u64 b) (.int .u64 n0) (.int .u64 b) 25
      have HE3 := hide e3
      clear e3
      replace hB := bcall hB hb3
      clear hb3
      go_wp2_with fail
      rw [HE3.out]
      (with_reducible refine (Scan_c n0 b x _ _ ((b : Nat) : Int) false l0 lb (by omega) (by omega) rfl rfl E2.out F1.out.symm _).mono ?_)
      rintro e w4 ⟨rfl, hb4⟩
      replace gu0 := keepf hb4 u0 gu0
      replace gu1 := keepf hb4 u1 gu1
      replace t0 := keepc hb4 t0
      replace t1 := keepc hb4 t1
      replace u0 := keepc hb4 u0
      replace u1 := keepc hb4 u1
      replace hB := bcall hB hb4
      have hs4 := hb4.size
      clear hb4
      have ne5_0 : ¬ w2.heap.size = w2.heap.size + 1 := by omega
      have nf5_0 : ¬ w2.heap.size + 1 = w2.heap.size := by omega
      obtain ⟨w5, e5, qu0, qu1, hb5, hs5⟩ := box_store (n := .int .u64 n0) (v := .int .u64 b) u0 u1 gu0 gu1
      have HE5 := hide e5
      clear e5
      have K_t0 := keeps hb5 (p := ⟨w2.heap.size, 0, none⟩) (show w2.heap.size < w2.heap.size + 1 by omega) (show w2.heap.size + 1 ≤ w4.heap.size by omega) t0
      have K_t1 := keeps hb5 (p := ⟨w2.heap.size, 1, none⟩) (show w2.heap.size < w2.heap.size + 1 by omega) (show w2.heap.size + 1 ≤ w4.heap.size by omega) t1
      go_wp2_with fail
      rw [HE5.out]
      clear u0 u1 gu0 gu1 t0 t1
      have t0 := K_t0
      have t1 := K_t1
      have u0 := qu0
      have u1 := qu1
      clear K_t0 K_t1
      clear qu0 qu1
      replace hB := Below.trans hB (hb5.mono (show w.heap.size ≤ w2.heap.size + 1 by omega))
      clear hb5
      skip
      (with_reducible refine (Between_c n0 b n0 b _ _ _ _ 0 0 l0 lb rfl rfl rfl rfl G1.out G2.out _).mono ?_)
      rintro e w6 ⟨rfl, hb6⟩
      replace t0 := keepc hb6 t0
      replace t1 := keepc hb6 t1
      replace u0 := keepc hb6 u0
      replace u1 := keepc hb6 u1
      replace hB := bcall hB hb6
      have hs6 := hb6.size
      clear hb6
      go_wp2_with fail
      (with_reducible refine (Between_c n0 b n0 b _ _ _ _ 0 0 l0 lb rfl rfl rfl rfl G1.out G2.out _).mono ?_)
      rintro e w7 ⟨rfl, hb7⟩
      replace t0 := keepc hb7 t0
      replace t1 := keepc hb7 t1
      replace u0 := keepc hb7 u0
      replace u1 := keepc hb7 u1
      replace hB := bcall hB hb7
      have hs7 := hb7.size
      clear hb7
      go_wp2
      go_ret
      exact ⟨rfl, hB⟩
    · have hB : Below w.heap.size w w := Below.refl _ _
      have HV := hide hE
      clear hE
      have F1 := hide hF
      have G := show tBetween n0 b n0 (scB n0 b x) = (2, x) from between_hit (k := 2) (by decide) hF
      have H := show tBetween n0 (scB n0 b x) n0 b = (-1, 0) from between_back (k := 2) (by decide) l0 lb hF
      have G1 := hide (show (2 : Int) = (tBetween n0 b n0 (scB n0 b x)).1 by rw [G])
      have G2 := hide (show x = (tBetween n0 b n0 (scB n0 b x)).2 by rw [G])
      have H1 := hide (show (-1 : Int) = (tBetween n0 (scB n0 b x) n0 b).1 by rw [H])
      have H2 := hide (show (0 : Int) = (tBetween n0 (scB n0 b x) n0 b).2 by rw [H])
      clear G H
      have lp : n0 < 18446744073709551616 := tkM_lt 2 b x l0
      have lq : scB n0 b x < 18446744073709551616 := tkB_lt 2 n0 x lb
      clear hF
      go_enter Tryd.func6, Tryd.ntmps6
      go_wp2_with fail
      (with_reducible refine (examples_any _ HV.out).mono ?_)
      rintro e w1 ⟨rfl, hb1⟩
      replace HV := hide (HV.out.below hb1)
      replace hB := bcall hB hb1
      have hs1 := hb1.size
      clear hb1
      go_wp2_with fail
      (with_reducible refine (some_any n0 n1 l0 l1 _).mono ?_)
      rintro e w2 ⟨rfl, hb2⟩
      replace HV := hide (HV.out.below hb2)
      replace hB := bcall hB hb2
      have hs2 := hb2.size
      clear hb2
      rw [HBB.out]
      obtain ⟨w3, e3, hb3, hs3, t0, t1, u0, u1, -, -, gu0, gu1⟩ := box3 w2 (.int .u64 n0) (.int .u64 b) (.int .u64 n0) (.int .u64 b) 25
      have HE3 := hide e3
      clear e3
      replace hB := bcall hB hb3
      clear hb3
      go_wp2_with fail
      rw [HE3.out]
      (with_reducible refine (Scan_c n0 b x _ _ ((scB n0 b x : Nat) : Int) true l0 lb (by omega) (by omega) rfl rfl rfl F1.out.symm _).mono ?_)
      rintro e w4 ⟨rfl, hb4⟩
      replace gu0 := keepf hb4 u0 gu0
      replace gu1 := keepf hb4 u1 gu1
      replace t0 := keepc hb4 t0
      replace t1 := keepc hb4 t1
      replace u0 := keepc hb4 u0
      replace u1 := keepc hb4 u1
      replace hB := bcall hB hb4
      have hs4 := hb4.size
      clear hb4
      have ne5_0 : ¬ w2.heap.size = w2.heap.size + 1 := by omega
      have nf5_0 : ¬ w2.heap.size + 1 = w2.heap.size := by omega
      obtain ⟨w5, e5, qu0, qu1, hb5, hs5⟩ := box_store (n := .int .u64 n0) (v := .int .u64 (scB n0 b x)) u0 u1 gu0 gu1
      have HE5 := hide e5
      clear e5
      have K_t0 := keeps hb5 (p := ⟨w2.heap.size, 0, none⟩) (show w2.heap.size < w2.heap.size + 1 by omega) (show w2.heap.size + 1 ≤ w4.heap.size by omega) t0
      have K_t1 := keeps hb5 (p := ⟨w2.heap.size, 1, none⟩) (show w2.heap.size < w2.heap.size + 1 by omega) (show w2.heap.size + 1 ≤ w4.heap.size by omega) t1
      go_wp2_with fail
      rw [HE5.out]
      clear u0 u1 gu0 gu1 t0 t1
      have t0 := K_t0
      have t1 := K_t1
      have u0 := qu0
      have u1 := qu1
      clear K_t0 K_t1
      clear qu0 qu1
      replace hB := Below.trans hB (hb5.mono (show w.heap.size ≤ w2.heap.size + 1 by omega))
      clear hb5
      skip
      (with_reducible refine (Between_c n0 b n0 (scB n0 b x) _ _ _ _ 2 x l0 lb rfl rfl rfl rfl G1.out G2.out _).mono ?_)
      rintro e w6 ⟨rfl, hb6⟩
      replace t0 := keepc hb6 t0
      replace t1 := keepc hb6 t1
      replace u0 := keepc hb6 u0
      replace u1 := keepc hb6 u1
      replace hB := bcall hB hb6
      have hs6 := hb6.size
      clear hb6
      go_wp2_with fail
      (with_reducible refine (Between_c n0 (scB n0 b x) n0 b _ _ _ _ (-1) 0 lp lq rfl rfl rfl rfl H1.out H2.out _).mono ?_)
      rintro e w7 ⟨rfl, hb7⟩
      replace t0 := keepc hb7 t0
      replace t1 := keepc hb7 t1
      replace u0 := keepc hb7 u0
      replace u1 := keepc hb7 u1
      replace hB := bcall hB hb7
      have hs7 := hb7.size
      clear hb7
      go_wp2
      go_ret
      exact ⟨rfl, hB⟩
  · have hk : a3.tmod 3 = 2 := by rw [Int.tmod_eq_emod_of_nonneg ha3.1]; exact hk3
    clear hk3
    obtain ⟨z2, z3⟩ := ha3
    cases hF : tFree n0 b x
    · have hB : Below w.heap.size w w := Below.refl _ _
      have HV := hide hE
      clear hE
      have F1 := hide hF
      have G := between_self n0 b
      have G1 := hide (show (0 : Int) = (tBetween n0 b n0 b).1 by rw [G])
      have G2 := hide (show (0 : Int) = (tBetween n0 b n0 b).2 by rw [G])
      clear G
      have E := tk_no (k := 3) hF
      have E1 := hide (show ((n0 : Nat) : Int) = ((shM n0 b x : Nat) : Int) from congrArg Nat.cast E.1.symm)
      have E2 := hide (show ((b : Nat) : Int) = ((frB n0 b x : Nat) : Int) from congrArg Nat.cast E.2.symm)
      clear E
      clear hF
      go_enter Tryd.func6, Tryd.ntmps6
      go_wp2_with fail
      (with_reducible refine (examples_any _ HV.out).mono ?_)
      rintro e w1 ⟨rfl, hb1⟩
      replace HV := hide (HV.out.below hb1)
      replace hB := bcall hB hb1
      have hs1 := hb1.size
      clear hb1
      go_wp2_with fail
      (with_reducible refine (some_any n0 n1 l0 l1 _).mono ?_)
      rintro e w2 ⟨rfl, hb2⟩
      replace HV := hide (HV.out.below hb2)
      replace hB := bcall hB hb2
      have hs2 := hb2.size
      clear hb2
      rw [HBB.out]
      obtain ⟨w3, e3, hb3, hs3, t0, t1, u0, u1, -, -, gu0, gu1⟩ := box3 w2 (.int .u64 n0) (.int .u64 b) (.int .u64 n0) (.int .u64 b) 25
      have HE3 := hide e3
      clear e3
      replace hB := bcall hB hb3
      clear hb3
      go_wp2_with fail
      rw [HE3.out]
      (with_reducible refine (Fresh_c n0 b x _ _ ((n0 : Nat) : Int) ((b : Nat) : Int) false l0 lb (by omega) (by omega) rfl rfl E1.out E2.out F1.out.symm _).mono ?_)
      rintro e w4 ⟨rfl, hb4⟩
      replace gu0 := keepf hb4 u0 gu0
      replace gu1 := keepf hb4 u1 gu1
      replace t0 := keepc hb4 t0
      replace t1 := keepc hb4 t1
      replace u0 := keepc hb4 u0
      replace u1 := keepc hb4 u1
      replace hB := bcall hB hb4
      have hs4 := hb4.size
      clear hb4
      have ne5_0 : ¬ w2.heap.size = w2.heap.size + 1 := by omega
      have nf5_0 : ¬ w2.heap.size + 1 = w2.heap.size := by omega
      obtain ⟨w5, e5, qu0, qu1, hb5, hs5⟩ := box_store (n := .int .u64 n0) (v := .int .u64 b) u0 u1 gu0 gu1
      have HE5 := hide e5
      clear e5
      have K_t0 := keeps hb5 (p := ⟨w2.heap.size, 0, none⟩) (show w2.heap.size < w2.heap.size + 1 by omega) (show w2.heap.size + 1 ≤ w4.heap.size by omega) t0
      have K_t1 := keeps hb5 (p := ⟨w2.heap.size, 1, none⟩) (show w2.heap.size < w2.heap.size + 1 by omega) (show w2.heap.size + 1 ≤ w4.heap.size by omega) t1
      go_wp2_with fail
      rw [HE5.out]
      clear u0 u1 gu0 gu1 t0 t1
      have t0 := K_t0
      have t1 := K_t1
      have u0 := qu0
      have u1 := qu1
      clear K_t0 K_t1
      clear qu0 qu1
      replace hB := Below.trans hB (hb5.mono (show w.heap.size ≤ w2.heap.size + 1 by omega))
      clear hb5
      skip
      (with_reducible refine (Between_c n0 b n0 b _ _ _ _ 0 0 l0 lb rfl rfl rfl rfl G1.out G2.out _).mono ?_)
      rintro e w6 ⟨rfl, hb6⟩
      replace t0 := keepc hb6 t0
      replace t1 := keepc hb6 t1
      replace u0 := keepc hb6 u0
      replace u1 := keepc hb6 u1
      replace hB := bcall hB hb6
      have hs6 := hb6.size
      clear hb6
      go_wp2_with fail
      (with_reducible refine (Between_c n0 b n0 b _ _ _ _ 0 0 l0 lb rfl rfl rfl rfl G1.out G2.out _).mono ?_)
      rintro e w7 ⟨rfl, hb7⟩
      replace t0 := keepc hb7 t0
      replace t1 := keepc hb7 t1
      replace u0 := keepc hb7 u0
      replace u1 := keepc hb7 u1
      replace hB := bcall hB hb7
      have hs7 := hb7.size
      clear hb7
      go_wp2
      go_ret
      exact ⟨rfl, hB⟩
    · have hB : Below w.heap.size w w := Below.refl _ _
      have HV := hide hE
      clear hE
      have F1 := hide hF
      have G := show tBetween n0 b (shM n0 b x) (frB n0 b x) = (3, x) from between_hit (k := 3) (by decide) hF
      have H := show tBetween (shM n0 b x) (frB n0 b x) n0 b = (-1, 0) from between_back (k := 3) (by decide) l0 lb hF
      have G1 := hide (show (3 : Int) = (tBetween n0 b (shM n0 b x) (frB n0 b x)).1 by rw [G])
      have G2 := hide (show x = (tBetween n0 b (shM n0 b x) (frB n0 b x)).2 by rw [G])
      have H1 := hide (show (-1 : Int) = (tBetween (shM n0 b x) (frB n0 b x) n0 b).1 by rw [H])
      have H2 := hide (show (0 : Int) = (tBetween (shM n0 b x) (frB n0 b x) n0 b).2 by rw [H])
      clear G H
      have lp : shM n0 b x < 18446744073709551616 := tkM_lt 3 b x l0
      have lq : frB n0 b x < 18446744073709551616 := tkB_lt 3 n0 x lb
      clear hF
      go_enter Tryd.func6, Tryd.ntmps6
      go_wp2_with fail
      (with_reducible refine (examples_any _ HV.out).mono ?_)
      rintro e w1 ⟨rfl, hb1⟩
      replace HV := hide (HV.out.below hb1)
      replace hB := bcall hB hb1
      have hs1 := hb1.size
      clear hb1
      go_wp2_with fail
      (with_reducible refine (some_any n0 n1 l0 l1 _).mono ?_)
      rintro e w2 ⟨rfl, hb2⟩
      replace HV := hide (HV.out.below hb2)
      replace hB := bcall hB hb2
      have hs2 := hb2.size
      clear hb2
      rw [HBB.out]
      obtain ⟨w3, e3, hb3, hs3, t0, t1, u0, u1, -, -, gu0, gu1⟩ := box3 w2 (.int .u64 n0) (.int .u64 b) (.int .u64 n0) (.int .u64 b) 25
      have HE3 := hide e3
      clear e3
      replace hB := bcall hB hb3
      clear hb3
      go_wp2_with fail
      rw [HE3.out]
      (with_reducible refine (Fresh_c n0 b x _ _ ((shM n0 b x : Nat) : Int) ((frB n0 b x : Nat) : Int) true l0 lb (by omega) (by omega) rfl rfl rfl rfl F1.out.symm _).mono ?_)
      rintro e w4 ⟨rfl, hb4⟩
      replace gu0 := keepf hb4 u0 gu0
      replace gu1 := keepf hb4 u1 gu1
      replace t0 := keepc hb4 t0
      replace t1 := keepc hb4 t1
      replace u0 := keepc hb4 u0
      replace u1 := keepc hb4 u1
      replace hB := bcall hB hb4
      have hs4 := hb4.size
      clear hb4
      have ne5_0 : ¬ w2.heap.size = w2.heap.size + 1 := by omega
      have nf5_0 : ¬ w2.heap.size + 1 = w2.heap.size := by omega
      obtain ⟨w5, e5, qu0, qu1, hb5, hs5⟩ := box_store (n := .int .u64 (shM n0 b x)) (v := .int .u64 (frB n0 b x)) u0 u1 gu0 gu1
      have HE5 := hide e5
      clear e5
      have K_t0 := keeps hb5 (p := ⟨w2.heap.size, 0, none⟩) (show w2.heap.size < w2.heap.size + 1 by omega) (show w2.heap.size + 1 ≤ w4.heap.size by omega) t0
      have K_t1 := keeps hb5 (p := ⟨w2.heap.size, 1, none⟩) (show w2.heap.size < w2.heap.size + 1 by omega) (show w2.heap.size + 1 ≤ w4.heap.size by omega) t1
      go_wp2_with fail
      rw [HE5.out]
      clear u0 u1 gu0 gu1 t0 t1
      have t0 := K_t0
      have t1 := K_t1
      have u0 := qu0
      have u1 := qu1
      clear K_t0 K_t1
      clear qu0 qu1
      replace hB := Below.trans hB (hb5.mono (show w.heap.size ≤ w2.heap.size + 1 by omega))
      clear hb5
      skip
      (with_reducible refine (Between_c n0 b (shM n0 b x) (frB n0 b x) _ _ _ _ 3 x l0 lb rfl rfl rfl rfl G1.out G2.out _).mono ?_)
      rintro e w6 ⟨rfl, hb6⟩
      replace t0 := keepc hb6 t0
      replace t1 := keepc hb6 t1
      replace u0 := keepc hb6 u0
      replace u1 := keepc hb6 u1
      replace hB := bcall hB hb6
      have hs6 := hb6.size
      clear hb6
      go_wp2_with fail
      (with_reducible refine (Between_c (shM n0 b x) (frB n0 b x) n0 b _ _ _ _ (-1) 0 lp lq rfl rfl rfl rfl H1.out H2.out _).mono ?_)
      rintro e w7 ⟨rfl, hb7⟩
      replace t0 := keepc hb7 t0
      replace t1 := keepc hb7 t1
      replace u0 := keepc hb7 u0
      replace u1 := keepc hb7 u1
      replace hB := bcall hB hb7
      have hs7 := hb7.size
      clear hb7
      go_wp2
      go_ret
      exact ⟨rfl, hB⟩

set_option maxRecDepth 100000 in
theorem lifted (os : Os) (started : os.Started) (H : Type) (enc : TypeId × Value → H) :
    ReturnsInHanded {} Tryd.checked os 6 .any (fun w args => (Rows.tintBetweenSpec.pre enc Tryd.prog Tryd.f6 Rows.tintBetweenRow.domain false w args ∧ laidMetH Tryd.prog Rows.tintBetweenRow.laid w) ∧ sizedMet enc Tryd.prog Tryd.f6 (OpenSpec.ofChange Rows.tintBetweenSpec) false w args) (Rows.tintBetweenSpec.post enc Tryd.prog Tryd.f6 false true false false) := by
  refine handed_and_shaped (C := Tryd.checked) (X := fun w _ => laidMetH Tryd.prog Rows.tintBetweenRow.laid w) (fun _ _ _ hh h => h.of_heap hh) ownL started (by kernel_rfl) Tryd.func6
    (ChangeSpec.witness_shaped (enc := enc) (C := Tryd.checked) (os := os) (X := fun w _ => laidMetH Tryd.prog Rows.tintBetweenRow.laid w) false (World.laidAll Tryd.prog os Rows.tintBetweenRow.laid) #[.int .u64 0, .int .u64 0, .int .u8 0, .int .u8 0] 8 (World.laidAll_os _ _ _)
      (World.shaped_of_ZipB (by kernel_rfl) (by kernel_rfl)) (by kernel_rfl) (by kernel_rfl) (by kernel_rfl)
      (by rw [MakeChecks.laidMetH_plain _ _ _ (by kernel_rfl)]; exact laidMet_laidAll _ (by kernel_rfl) (by kernel_rfl))) ?_
  intro W base args ds gs before hval0 hW hsz0 hL hsh
  have hval : ∀ (j : Nat) t v, Tryd.f6.params[j]? = some t → args[j]? = some v → Value.okWide Tryd.prog W .any base t v := hval0
  have hW' := hW
  obtain ⟨p, q, hA0, hV, rfl, hfz, hnd⟩ := hW
  have hA : DataW.TrodAll enc Tryd.prog W 0 (fun _ => true) true Tryd.f6.params.toList args.toList ds p := hA0
  rw [Tryd.params6] at hA hval
  obtain ⟨v0, vs0, d0, ds0, p0, q0, hargs, rfl, rfl, h0, r0⟩ := trodAll_cons hA
  obtain ⟨v1, vs1, d1, ds1, p1, q1, rfl, rfl, rfl, h1, r1⟩ := trodAll_cons r0
  obtain ⟨v2, vs2, d2, ds2, p2, q2, rfl, rfl, rfl, h2, r2⟩ := trodAll_cons r1
  obtain ⟨v3, vs3, d3, ds3, p3, q3, rfl, rfl, rfl, h3, r3⟩ := trodAll_cons r2
  obtain ⟨rfl, rfl, rfl⟩ := trodAll_nil r3
  obtain rfl : args = #[v0, v1, v2, v3] := by cases args; simp_all
  obtain ⟨rfl, rfl⟩ := trodVars_none hV
  obtain ⟨a0, rfl, rfl, rfl, w0⟩ := open_int Tryd.underlying23 (hval 0 23 v0 rfl rfl) h0
  have hx0 : 0 ≤ a0 ∧ a0 ≤ 18446744073709551615 := by simpa [Lit.wf, IntKind.min, IntKind.max, IntKind.signed, IntKind.bits] using w0
  obtain ⟨n0, rfl⟩ : ∃ n : Nat, a0 = n := ⟨a0.toNat, by omega⟩
  obtain ⟨a1, rfl, rfl, rfl, w1⟩ := open_int Tryd.underlying23 (hval 1 23 v1 rfl rfl) h1
  have hx1 : 0 ≤ a1 ∧ a1 ≤ 18446744073709551615 := by simpa [Lit.wf, IntKind.min, IntKind.max, IntKind.signed, IntKind.bits] using w1
  obtain ⟨n1, rfl⟩ : ∃ n : Nat, a1 = n := ⟨a1.toNat, by omega⟩
  obtain ⟨a2, rfl, rfl, rfl, w2⟩ := open_int Tryd.underlying5 (hval 2 5 v2 rfl rfl) h2
  have hx2 : 0 ≤ a2 ∧ a2 ≤ 255 := by simpa [Lit.wf, IntKind.min, IntKind.max, IntKind.signed, IntKind.bits] using w2
  obtain ⟨a3, rfl, rfl, rfl, w3⟩ := open_int Tryd.underlying5 (hval 3 5 v3 rfl rfl) h3
  have hx3 : 0 ≤ a3 ∧ a3 ≤ 255 := by simpa [Lit.wf, IntKind.min, IntKind.max, IntKind.signed, IntKind.bits] using w3
  have hE := envL_of_laid hL
  refine (walk n0 n1 (by omega) (by omega) a2 hx2 a3 hx3 W hE).mono fun e W' ⟨he, hg⟩ => ?_
  subst he
  exact ⟨_, rfl, law_post laidOutL (by kernel_rfl) rfl Tryd.underlying4 rfl ⟨rfl, rfl, rfl⟩ hW' hg⟩
theorem row_holds : Rows.TintBetweenSaid :=
  OpenClaim.holds_of_wide 6 Tryd.f6 rfl rfl rfl rfl rfl rfl rfl ⟨rfl, rfl, rfl, rfl, rfl⟩ rfl rfl rfl rfl rfl (by kernel_rfl) Tryd.func6 (by kernel_rfl)
    (of_decide_eq_true (by kernel_rfl)) (by unfold Func.isWrapper; first | (rw [if_pos (by decide +kernel)]; kernel_rfl) | (rw [if_neg (by decide +kernel)]; exact ⟨rfl, rfl⟩))
    (fun os started H enc _ => lifted os started H enc)

/-- THE STATEMENT -/
theorem proved : Rows.TintBetweenCardSaid :=
  Claim7.holds_tied_plain_at .later [] Rows.tintBetweenCard.laidKinds true Rows.tintBetweenCard.stood.harness Rows.tintBetweenCard.stood.looks
    row_holds (fun _ h => by cases h) (by kernel_rfl) (fun _ h => by cases h) tintBetween_row_tie rfl ⟨rfl, rfl⟩ (by kernel_rfl) rfl
    (fun f fn hf hfn => by
      obtain rfl : f = 6 := Option.some.inj ((show Tryd.prog.funcNamed Rows.tintBetweenRow.func = some 6 by kernel_rfl).symm.trans hf) |>.symm
      obtain rfl : fn = Tryd.f6 := (Option.some.inj (Tryd.func6.symm.trans hfn)).symm
      exact ⟨by kernel_rfl, fun j t ht => by
        rw [Tryd.params6] at ht
        have hm : t ∈ [23, 23, 5, 5] := by simpa using Array.mem_of_getElem? ht
        have hall : ([23, 23, 5, 5].all fun u => !Tryd.prog.wantsStandIn u) = true := by kernel_rfl
        exact (show Tryd.prog.wantsStandIn t = false by simpa using List.all_eq_true.1 hall t hm)⟩)
    (by kernel_rfl)
end Go.Proofs.YtpffknlbffnafaaDoor.lawTintBetween
