/- TintDarker: of any two sets, a number and which: no object gets lighter: what is shaded, scanned, fresh has each object as dark as it was, or darker, and one of them at most. No condition beside the listed tables, which the card ties to the text. -/
import Derived.Test.YtpffknlbffnafaaDoorTintStore
import Derived.Test.YtpffknlbffnafaaDoorQuietB
namespace Go.Proofs.YtpffknlbffnafaaDoor.lawTintDarker
open Go.RowKit Go.WideShapes Go.ChangeShapes Go.ChangeAt Go.Shelf Go.Proofs Go.Proofs.YtpffknlbffnafaaDoor

/-- how many have turned among the first k -/
def cD (ok : Bool) (x : Int) (k : Nat) : Int := if ok = true ∧ x < (k : Int) then 1 else 0
theorem cD_zero (ok : Bool) {x : Int} (h : 0 ≤ x) : cD ok x 0 = 0 := by unfold cD; rw [if_neg]; omega
theorem cD_no (x : Int) (k : Nat) : cD false x k = 0 := by unfold cD; rw [if_neg]; simp
theorem cD_at {x : Int} {k : Nat} (h : (k : Int) = x) : cD true x k = 0 ∧ cD true x (k + 1) = 1 := by
  unfold cD; constructor
  · rw [if_neg]; omega
  · rw [if_pos]; exact ⟨rfl, by omega⟩
theorem cD_off {x : Int} {k : Nat} (h : ¬ (k : Int) = x) : cD true x (k + 1) = cD true x k := by
  unfold cD
  by_cases hk : x < (k : Int)
  · rw [if_pos ⟨rfl, by omega⟩, if_pos ⟨rfl, hk⟩]
  · rw [if_neg (by omega), if_neg (by omega)]
theorem cD_end {x : Int} (h : x ≤ 65) : cD true x 66 = 1 := by unfold cD; rw [if_pos]; exact ⟨rfl, by omega⟩
set_option maxRecDepth 100000 in
set_option maxHeartbeats 8000000 in
theorem walk1n (n0 n1 b : Nat) (l0 : n0 < 18446744073709551616) (l1 : n1 < 18446744073709551616) (lb : b < 18446744073709551616) (HBB : Hid (n0 &&& n1 = b)) (hu : Hid (underF b n0 = true)) (a2 a3 x : Int) (hx : a2.tmod 66 = x) (x0 : 0 ≤ x) (x1 : x ≤ 65) (_z0 : 0 ≤ a2) (_z1 : a2 ≤ 255) (_z2 : 0 ≤ a3) (_z3 : a3 ≤ 255) (hk : a3.tmod 3 = 0) (hF : tFree n0 b x = false) (w : World) (hE : EnvL w) : Calls Tryd.prog 4 #[.int .u64 n0, .int .u64 n1, .int .u8 a2, .int .u8 a3] w fun e w' => e = .returned (.bool true) ∧ Below w.heap.size w w' := by
  have gT := guardT
  have hB : Below w.heap.size w w := Below.refl _ _
  have HV := hide hE
  clear hE
  have F1 := hide hF
  have E := tk_no (k := 1) hF
  have E1 := hide (show ((n0 : Nat) : Int) = ((shM n0 b x : Nat) : Int) from congrArg Nat.cast E.1.symm)
  have E2 := hide (show ((b : Nat) : Int) = ((b : Nat) : Int) from congrArg Nat.cast E.2.symm)
  clear E
  have HR := hide (show true = tRight n0 b 64 from (show tRight n0 b 64 = true by rw [right_all b l0]; exact hu.out).symm)
  have lp := l0
  have lq := lb
  have HG := hide (show (decide (1 ≤ x) && (decide (x ≤ 64) && decide (tOf n0 b x = 0))) = false by rw [← free_white l0 lb hu.out]; exact hF)
  clear hF
  go_enter Tryd.func4, Tryd.ntmps4
  go_wp2_with fail
  (with_reducible refine (examples_any _ HV.out).mono ?_)
  rintro e w1 ⟨rfl, hb1⟩
  replace HV := hide (HV.out.below hb1)
  replace hB := bcall hB hb1
  have hs1 := hb1.size
  clear hb1
  go_wp2_with fail
  (with_reducible refine (some_any n0 n1 l0 l1 _).mono ?_)
  rintro e w2 ⟨rfl, hb2⟩
  replace HV := hide (HV.out.below hb2)
  replace hB := bcall hB hb2
  have hs2 := hb2.size
  clear hb2
  rw [HBB.out]
  obtain ⟨w3, e3, hb3, hs3, t0, t1, u0, u1, -, -, gu0, gu1⟩ := box3 w2 (.int .u64 n0) (.int .u64 b) (.int .u64 n0) (.int .u64 b) 25
  have HE3 := hide e3
  clear e3
  replace hB := bcall hB hb3
  clear hb3
  go_wp2_with fail
  rw [HE3.out]
  (with_reducible refine (Shade_c n0 b x _ _ ((n0 : Nat) : Int) false l0 lb (by omega) (by omega) rfl rfl E1.out F1.out.symm _).mono ?_)
  rintro e w4 ⟨rfl, hb4⟩
  replace gu0 := keepf hb4 u0 gu0
  replace gu1 := keepf hb4 u1 gu1
  replace t0 := keepc hb4 t0
  replace t1 := keepc hb4 t1
  replace u0 := keepc hb4 u0
  replace u1 := keepc hb4 u1
  replace hB := bcall hB hb4
  have hs4 := hb4.size
  clear hb4
  have ne5_0 : ¬ w2.heap.size = w2.heap.size + 1 := by omega
  have nf5_0 : ¬ w2.heap.size + 1 = w2.heap.size := by omega
  obtain ⟨w5, e5, qu0, qu1, hb5, hs5⟩ := box_store (n := .int .u64 n0) (v := .int .u64 b) u0 u1 gu0 gu1
  have HE5 := hide e5
  clear e5
  have K_t0 := keeps hb5 (p := ⟨w2.heap.size, 0, none⟩) (show w2.heap.size < w2.heap.size + 1 by omega) (show w2.heap.size + 1 ≤ w4.heap.size by omega) t0
  have K_t1 := keeps hb5 (p := ⟨w2.heap.size, 1, none⟩) (show w2.heap.size < w2.heap.size + 1 by omega) (show w2.heap.size + 1 ≤ w4.heap.size by omega) t1
  go_upto_region 14 with (fail)
  rw [HE5.out]
  clear u0 u1 gu0 gu1 t0 t1
  have t0 := K_t0
  have t1 := K_t1
  have u0 := qu0
  have u1 := qu1
  clear K_t0 K_t1
  clear qu0 qu1
  replace hB := Below.trans hB (hb5.mono (show w.heap.size ≤ w2.heap.size + 1 by omega))
  clear hb5
  have H0 := hide (cD_zero false x0)
  go_wp2
  go_loopw [14, 15] (fun fv iv wr => ∃ k : Nat, k ≤ 66 ∧ iv = .int .i64 (k : Int) ∧ fv = .int .i64 (cD false x k) ∧ Below w5.heap.size w5 wr) (fun _ iv _ => 66 - (Go.RowKit.intOf iv).toNat)
  case atStart => exact ⟨0, Nat.zero_le _, rfl, by rw [H0.out], Below.refl _ _⟩
  case round =>
    obtain ⟨k, hk, rfl, rfl, hbw⟩ := hrel
    have t0 := keepc hbw t0
    have t1 := keepc hbw t1
    have u0 := keepc hbw u0
    have u1 := keepc hbw u1
    replace hB := bcall hB hbw
    by_cases hlt : k < 66
    · have q2 : (k : Int) ≤ 65 := by omega
      have HT := hide (show cD false x (k + 1) = cD false x k by rw [cD_no, cD_no])
      have hBw := Below.refl wr.heap.size wr
      have Q_t0 : ∀ pp : BW wr, pp.w.cell? ⟨w2.heap.size, 0, none⟩ = some (.int .u64 n0) := fun pp => keepc pp.b t0
      have Q_t1 : ∀ pp : BW wr, pp.w.cell? ⟨w2.heap.size, 1, none⟩ = some (.int .u64 b) := fun pp => keepc pp.b t1
      have Q_u0 : ∀ pp : BW wr, pp.w.cell? ⟨w2.heap.size + 1, 0, none⟩ = some (.int .u64 n0) := fun pp => keepc pp.b u0
      have Q_u1 : ∀ pp : BW wr, pp.w.cell? ⟨w2.heap.size + 1, 1, none⟩ = some (.int .u64 b) := fun pp => keepc pp.b u1
      go_wp2
      refine wp_region_below (by kernel_rfl) (by kernel_rfl) ?_
      repeat (go_big_quiet_step (first | (with_reducible refine below_of (Of_any n0 b _ l0 lb (by omega) (by omega) _))))
      refine wpQuiet_nil ?_
      intro w6 hw'
      obtain ⟨pq_, hq_⟩ := hw'
      have hb6 := pq_.b
      rw [← hq_] at hb6
      clear hq_ pq_
      clear Q_t0 Q_t1 Q_u0 Q_u1
      replace t0 := keepc hb6 t0
      replace t1 := keepc hb6 t1
      replace u0 := keepc hb6 u0
      replace u1 := keepc hb6 u1
      replace hBw := bcall hBw hb6
      have hs6 := hb6.size
      clear hb6
      have Q_t0 : ∀ pp : BW w6, pp.w.cell? ⟨w2.heap.size, 0, none⟩ = some (.int .u64 n0) := fun pp => keepc pp.b t0
      have Q_t1 : ∀ pp : BW w6, pp.w.cell? ⟨w2.heap.size, 1, none⟩ = some (.int .u64 b) := fun pp => keepc pp.b t1
      have Q_u0 : ∀ pp : BW w6, pp.w.cell? ⟨w2.heap.size + 1, 0, none⟩ = some (.int .u64 n0) := fun pp => keepc pp.b u0
      have Q_u1 : ∀ pp : BW w6, pp.w.cell? ⟨w2.heap.size + 1, 1, none⟩ = some (.int .u64 b) := fun pp => keepc pp.b u1
      go_wp2
      refine wp_region_below (by kernel_rfl) (by kernel_rfl) ?_
      repeat (go_big_quiet_step (first | (with_reducible refine below_of (Of_any n0 b _ l0 lb (by omega) (by omega) _))))
      refine wpQuiet_nil ?_
      intro w7 hw'
      obtain ⟨pq_, hq_⟩ := hw'
      have hb7 := pq_.b
      rw [← hq_] at hb7
      clear hq_ pq_
      clear Q_t0 Q_t1 Q_u0 Q_u1
      replace t0 := keepc hb7 t0
      replace t1 := keepc hb7 t1
      replace u0 := keepc hb7 u0
      replace u1 := keepc hb7 u1
      replace hBw := bcall hBw hb7
      have hs7 := hb7.size
      clear hb7
      go_wp2
      go_roundw
      case rel => exact ⟨k + 1, by omega, by go_num, by rw [HT.out], bcall hbw hBw⟩
      case measure => simp [Go.RowKit.intOf]; omega
    · have q2 : ¬ (k : Int) ≤ 65 := by omega
      have ek : k = 66 := by omega
      subst ek
      rw [show cD false x 66 = 0 from cD_no x 66]
      by_cases r1 : 1 ≤ x
      · by_cases r2 : x ≤ 64
        · obtain ⟨V, hV⟩ : ∃ V, tOf n0 b x = V := ⟨_, rfl⟩
          have HV_ := hide hV.symm
          have v0 : ¬ V = 0 := fun h => by have := HG.out; rw [hV, decide_eq_true r1, decide_eq_true r2, decide_eq_true h] at this; cases this
          have v1 : (V == 0) = false := by rw [beq_eq_false_iff_ne]; exact v0
          clear hV v0
          go_wp2_with fail
          (with_reducible refine (Of_c n0 b x _ _ V l0 lb (by omega) (by omega) rfl rfl HV_.out _).mono ?_)
          rintro e w6 ⟨rfl, hb6⟩
          replace t0 := keepc hb6 t0
          replace t1 := keepc hb6 t1
          replace u0 := keepc hb6 u0
          replace u1 := keepc hb6 u1
          replace hB := bcall hB hb6
          have hs6 := hb6.size
          clear hb6
          go_wp2_with fail
          (with_reducible refine (Right_c n0 b 64 _ _ true lp lq (by omega) (by omega) rfl rfl HR.out _).mono ?_)
          rintro e w7 ⟨rfl, hb7⟩
          replace t0 := keepc hb7 t0
          replace t1 := keepc hb7 t1
          replace u0 := keepc hb7 u0
          replace u1 := keepc hb7 u1
          replace hB := bcall hB hb7
          have hs7 := hb7.size
          clear hb7
          go_wp2
          go_ret
          exact ⟨rfl, hB⟩
        · go_wp2_with fail
          (with_reducible refine (Right_c n0 b 64 _ _ true lp lq (by omega) (by omega) rfl rfl HR.out _).mono ?_)
          rintro e w6 ⟨rfl, hb6⟩
          replace t0 := keepc hb6 t0
          replace t1 := keepc hb6 t1
          replace u0 := keepc hb6 u0
          replace u1 := keepc hb6 u1
          replace hB := bcall hB hb6
          have hs6 := hb6.size
          clear hb6
          go_wp2
          go_ret
          exact ⟨rfl, hB⟩
      · go_wp2_with fail
        (with_reducible refine (Right_c n0 b 64 _ _ true lp lq (by omega) (by omega) rfl rfl HR.out _).mono ?_)
        rintro e w6 ⟨rfl, hb6⟩
        replace t0 := keepc hb6 t0
        replace t1 := keepc hb6 t1
        replace u0 := keepc hb6 u0
        replace u1 := keepc hb6 u1
        replace hB := bcall hB hb6
        have hs6 := hb6.size
        clear hb6
        go_wp2
        go_ret
        exact ⟨rfl, hB⟩
set_option maxRecDepth 100000 in
set_option maxHeartbeats 8000000 in
theorem walk1y (n0 n1 b : Nat) (l0 : n0 < 18446744073709551616) (l1 : n1 < 18446744073709551616) (lb : b < 18446744073709551616) (HBB : Hid (n0 &&& n1 = b)) (hu : Hid (underF b n0 = true)) (a2 a3 x : Int) (hx : a2.tmod 66 = x) (x0 : 0 ≤ x) (x1 : x ≤ 65) (_z0 : 0 ≤ a2) (_z1 : a2 ≤ 255) (_z2 : 0 ≤ a3) (_z3 : a3 ≤ 255) (hk : a3.tmod 3 = 0) (hF : tFree n0 b x = true) (w : World) (hE : EnvL w) : Calls Tryd.prog 4 #[.int .u64 n0, .int .u64 n1, .int .u8 a2, .int .u8 a3] w fun e w' => e = .returned (.bool true) ∧ Below w.heap.size w w' := by
  have gT := guardT
  have hB : Below w.heap.size w w := Below.refl _ _
  have HV := hide hE
  clear hE
  have F1 := hide hF
  have HD := hide (fun i => tk_darker (k := 1) (by decide) n0 b x i)
  have HN := hide (fun i => tk_differ (k := 1) (by decide) n0 b x i)
  have HR := hide (show true = tRight (shM n0 b x) b 64 from (tk_right (k := 1) (by decide) l0 lb hu.out x).symm)
  have lp : shM n0 b x < 18446744073709551616 := tkM_lt 1 b x l0
  have lq : b < 18446744073709551616 := tkB_lt 1 n0 x lb
  have HG := hide (show (decide (1 ≤ x) && (decide (x ≤ 64) && decide (tOf n0 b x = 0))) = true by rw [← free_white l0 lb hu.out]; exact hF)
  clear hF
  go_enter Tryd.func4, Tryd.ntmps4
  go_wp2_with fail
  (with_reducible refine (examples_any _ HV.out).mono ?_)
  rintro e w1 ⟨rfl, hb1⟩
  replace HV := hide (HV.out.below hb1)
  replace hB := bcall hB hb1
  have hs1 := hb1.size
  clear hb1
  go_wp2_with fail
  (with_reducible refine (some_any n0 n1 l0 l1 _).mono ?_)
  rintro e w2 ⟨rfl, hb2⟩
  replace HV := hide (HV.out.below hb2)
  replace hB := bcall hB hb2
  have hs2 := hb2.size
  clear hb2
  rw [HBB.out]
  obtain ⟨w3, e3, hb3, hs3, t0, t1, u0, u1, -, -, gu0, gu1⟩ := box3 w2 (.int .u64 n0) (.int .u64 b) (.int .u64 n0) (.int .u64 b) 25
  have HE3 := hide e3
  clear e3
  replace hB := bcall hB hb3
  clear hb3
  go_wp2_with fail
  rw [HE3.out]
  (with_reducible refine (Shade_c n0 b x _ _ ((shM n0 b x : Nat) : Int) true l0 lb (by omega) (by omega) rfl rfl rfl F1.out.symm _).mono ?_)
  rintro e w4 ⟨rfl, hb4⟩
  replace gu0 := keepf hb4 u0 gu0
  replace gu1 := keepf hb4 u1 gu1
  replace t0 := keepc hb4 t0
  replace t1 := keepc hb4 t1
  replace u0 := keepc hb4 u0
  replace u1 := keepc hb4 u1
  replace hB := bcall hB hb4
  have hs4 := hb4.size
  clear hb4
  have ne5_0 : ¬ w2.heap.size = w2.heap.size + 1 := by omega
  have nf5_0 : ¬ w2.heap.size + 1 = w2.heap.size := by omega
  obtain ⟨w5, e5, qu0, qu1, hb5, hs5⟩ := box_store (n := .int .u64 (shM n0 b x)) (v := .int .u64 b) u0 u1 gu0 gu1
  have HE5 := hide e5
  clear e5
  have K_t0 := keeps hb5 (p := ⟨w2.heap.size, 0, none⟩) (show w2.heap.size < w2.heap.size + 1 by omega) (show w2.heap.size + 1 ≤ w4.heap.size by omega) t0
  have K_t1 := keeps hb5 (p := ⟨w2.heap.size, 1, none⟩) (show w2.heap.size < w2.heap.size + 1 by omega) (show w2.heap.size + 1 ≤ w4.heap.size by omega) t1
  go_upto_region 14 with (fail)
  rw [HE5.out]
  clear u0 u1 gu0 gu1 t0 t1
  have t0 := K_t0
  have t1 := K_t1
  have u0 := qu0
  have u1 := qu1
  clear K_t0 K_t1
  clear qu0 qu1
  replace hB := Below.trans hB (hb5.mono (show w.heap.size ≤ w2.heap.size + 1 by omega))
  clear hb5
  have H0 := hide (cD_zero true x0)
  go_wp2
  go_loopw [14, 15] (fun fv iv wr => ∃ k : Nat, k ≤ 66 ∧ iv = .int .i64 (k : Int) ∧ fv = .int .i64 (cD true x k) ∧ Below w5.heap.size w5 wr) (fun _ iv _ => 66 - (Go.RowKit.intOf iv).toNat)
  case atStart => exact ⟨0, Nat.zero_le _, rfl, by rw [H0.out], Below.refl _ _⟩
  case round =>
    obtain ⟨k, hk, rfl, rfl, hbw⟩ := hrel
    have t0 := keepc hbw t0
    have t1 := keepc hbw t1
    have u0 := keepc hbw u0
    have u1 := keepc hbw u1
    replace hB := bcall hB hbw
    by_cases hlt : k < 66
    · have q2 : (k : Int) ≤ 65 := by omega
      by_cases hkx : (k : Int) = x
      · have dd := show tOf n0 b (k : Int) ≤ tOf (shM n0 b x) b (k : Int) from HD.out (k : Int)
        have d1 : ¬ tOf (shM n0 b x) b (k : Int) < tOf n0 b (k : Int) := by omega
        clear dd
        have d2 : (tOf (shM n0 b x) b (k : Int) != tOf n0 b (k : Int)) = true := by rw [bne_iff_ne]; exact (HN.out (k : Int)).2 ⟨F1.out, hkx⟩
        have HT := hide (cD_at hkx).2
        have h0 := (cD_at hkx).1
        rw [h0]
        clear h0 hkx
        have hBw := Below.refl wr.heap.size wr
        have Q_t0 : ∀ pp : BW wr, pp.w.cell? ⟨w2.heap.size, 0, none⟩ = some (.int .u64 n0) := fun pp => keepc pp.b t0
        have Q_t1 : ∀ pp : BW wr, pp.w.cell? ⟨w2.heap.size, 1, none⟩ = some (.int .u64 b) := fun pp => keepc pp.b t1
        have Q_u0 : ∀ pp : BW wr, pp.w.cell? ⟨w2.heap.size + 1, 0, none⟩ = some (.int .u64 (shM n0 b x)) := fun pp => keepc pp.b u0
        have Q_u1 : ∀ pp : BW wr, pp.w.cell? ⟨w2.heap.size + 1, 1, none⟩ = some (.int .u64 b) := fun pp => keepc pp.b u1
        go_wp2
        refine wp_region_below (by kernel_rfl) (by kernel_rfl) ?_
        repeat (go_big_quiet_step (first | (with_reducible refine below_of (Of_any n0 b _ l0 lb (by omega) (by omega) _)) | (with_reducible refine below_of (Of_any (shM n0 b x) b _ lp lq (by omega) (by omega) _))))
        refine wpQuiet_nil ?_
        intro w6 hw'
        obtain ⟨pq_, hq_⟩ := hw'
        have hb6 := pq_.b
        rw [← hq_] at hb6
        clear hq_ pq_
        clear Q_t0 Q_t1 Q_u0 Q_u1
        replace t0 := keepc hb6 t0
        replace t1 := keepc hb6 t1
        replace u0 := keepc hb6 u0
        replace u1 := keepc hb6 u1
        replace hBw := bcall hBw hb6
        have hs6 := hb6.size
        clear hb6
        have Q_t0 : ∀ pp : BW w6, pp.w.cell? ⟨w2.heap.size, 0, none⟩ = some (.int .u64 n0) := fun pp => keepc pp.b t0
        have Q_t1 : ∀ pp : BW w6, pp.w.cell? ⟨w2.heap.size, 1, none⟩ = some (.int .u64 b) := fun pp => keepc pp.b t1
        have Q_u0 : ∀ pp : BW w6, pp.w.cell? ⟨w2.heap.size + 1, 0, none⟩ = some (.int .u64 (shM n0 b x)) := fun pp => keepc pp.b u0
        have Q_u1 : ∀ pp : BW w6, pp.w.cell? ⟨w2.heap.size + 1, 1, none⟩ = some (.int .u64 b) := fun pp => keepc pp.b u1
        go_wp2
        refine wp_region_below (by kernel_rfl) (by kernel_rfl) ?_
        repeat (go_big_quiet_step (first | (with_reducible refine below_of (Of_any n0 b _ l0 lb (by omega) (by omega) _)) | (with_reducible refine below_of (Of_any (shM n0 b x) b _ lp lq (by omega) (by omega) _))))
        refine wpQuiet_nil ?_
        intro w7 hw'
        obtain ⟨pq_, hq_⟩ := hw'
        have hb7 := pq_.b
        rw [← hq_] at hb7
        clear hq_ pq_
        clear Q_t0 Q_t1 Q_u0 Q_u1
        replace t0 := keepc hb7 t0
        replace t1 := keepc hb7 t1
        replace u0 := keepc hb7 u0
        replace u1 := keepc hb7 u1
        replace hBw := bcall hBw hb7
        have hs7 := hb7.size
        clear hb7
        go_wp2
        go_roundw
        case rel => exact ⟨k + 1, by omega, by go_num, by rw [HT.out], bcall hbw hBw⟩
        case measure => simp [Go.RowKit.intOf]; omega
      · have dd := show tOf n0 b (k : Int) ≤ tOf (shM n0 b x) b (k : Int) from HD.out (k : Int)
        have d1 : ¬ tOf (shM n0 b x) b (k : Int) < tOf n0 b (k : Int) := by omega
        clear dd
        have d2 : (tOf (shM n0 b x) b (k : Int) != tOf n0 b (k : Int)) = false := by rw [bne_eq_false_iff_eq]; exact Decidable.byContradiction fun h => hkx ((HN.out (k : Int)).1 h).2
        have HT := hide (cD_off hkx)
        have hBw := Below.refl wr.heap.size wr
        have Q_t0 : ∀ pp : BW wr, pp.w.cell? ⟨w2.heap.size, 0, none⟩ = some (.int .u64 n0) := fun pp => keepc pp.b t0
        have Q_t1 : ∀ pp : BW wr, pp.w.cell? ⟨w2.heap.size, 1, none⟩ = some (.int .u64 b) := fun pp => keepc pp.b t1
        have Q_u0 : ∀ pp : BW wr, pp.w.cell? ⟨w2.heap.size + 1, 0, none⟩ = some (.int .u64 (shM n0 b x)) := fun pp => keepc pp.b u0
        have Q_u1 : ∀ pp : BW wr, pp.w.cell? ⟨w2.heap.size + 1, 1, none⟩ = some (.int .u64 b) := fun pp => keepc pp.b u1
        go_wp2
        refine wp_region_below (by kernel_rfl) (by kernel_rfl) ?_
        repeat (go_big_quiet_step (first | (with_reducible refine below_of (Of_any n0 b _ l0 lb (by omega) (by omega) _)) | (with_reducible refine below_of (Of_any (shM n0 b x) b _ lp lq (by omega) (by omega) _))))
        refine wpQuiet_nil ?_
        intro w6 hw'
        obtain ⟨pq_, hq_⟩ := hw'
        have hb6 := pq_.b
        rw [← hq_] at hb6
        clear hq_ pq_
        clear Q_t0 Q_t1 Q_u0 Q_u1
        replace t0 := keepc hb6 t0
        replace t1 := keepc hb6 t1
        replace u0 := keepc hb6 u0
        replace u1 := keepc hb6 u1
        replace hBw := bcall hBw hb6
        have hs6 := hb6.size
        clear hb6
        have Q_t0 : ∀ pp : BW w6, pp.w.cell? ⟨w2.heap.size, 0, none⟩ = some (.int .u64 n0) := fun pp => keepc pp.b t0
        have Q_t1 : ∀ pp : BW w6, pp.w.cell? ⟨w2.heap.size, 1, none⟩ = some (.int .u64 b) := fun pp => keepc pp.b t1
        have Q_u0 : ∀ pp : BW w6, pp.w.cell? ⟨w2.heap.size + 1, 0, none⟩ = some (.int .u64 (shM n0 b x)) := fun pp => keepc pp.b u0
        have Q_u1 : ∀ pp : BW w6, pp.w.cell? ⟨w2.heap.size + 1, 1, none⟩ = some (.int .u64 b) := fun pp => keepc pp.b u1
        go_wp2
        refine wp_region_below (by kernel_rfl) (by kernel_rfl) ?_
        repeat (go_big_quiet_step (first | (with_reducible refine below_of (Of_any n0 b _ l0 lb (by omega) (by omega) _)) | (with_reducible refine below_of (Of_any (shM n0 b x) b _ lp lq (by omega) (by omega) _))))
        refine wpQuiet_nil ?_
        intro w7 hw'
        obtain ⟨pq_, hq_⟩ := hw'
        have hb7 := pq_.b
        rw [← hq_] at hb7
        clear hq_ pq_
        clear Q_t0 Q_t1 Q_u0 Q_u1
        replace t0 := keepc hb7 t0
        replace t1 := keepc hb7 t1
        replace u0 := keepc hb7 u0
        replace u1 := keepc hb7 u1
        replace hBw := bcall hBw hb7
        have hs7 := hb7.size
        clear hb7
        go_wp2
        go_roundw
        case rel => exact ⟨k + 1, by omega, by go_num, by rw [HT.out], bcall hbw hBw⟩
        case measure => simp [Go.RowKit.intOf]; omega
    · have q2 : ¬ (k : Int) ≤ 65 := by omega
      have ek : k = 66 := by omega
      subst ek
      rw [show cD true x 66 = 1 from cD_end x1]
      have hg := HG.out
      rw [Bool.and_eq_true, Bool.and_eq_true, decide_eq_true_eq, decide_eq_true_eq, decide_eq_true_eq] at hg
      obtain ⟨r1, r2, hv⟩ := hg
      have HV_ := hide hv.symm
      clear hv
      go_wp2_with fail
      (with_reducible refine (Of_c n0 b x _ _ 0 l0 lb (by omega) (by omega) rfl rfl HV_.out _).mono ?_)
      rintro e w6 ⟨rfl, hb6⟩
      replace t0 := keepc hb6 t0
      replace t1 := keepc hb6 t1
      replace u0 := keepc hb6 u0
      replace u1 := keepc hb6 u1
      replace hB := bcall hB hb6
      have hs6 := hb6.size
      clear hb6
      go_wp2_with fail
      (with_reducible refine (Right_c (shM n0 b x) b 64 _ _ true lp lq (by omega) (by omega) rfl rfl HR.out _).mono ?_)
      rintro e w7 ⟨rfl, hb7⟩
      replace t0 := keepc hb7 t0
      replace t1 := keepc hb7 t1
      replace u0 := keepc hb7 u0
      replace u1 := keepc hb7 u1
      replace hB := bcall hB hb7
      have hs7 := hb7.size
      clear hb7
      go_wp2
      go_ret
      exact ⟨rfl, hB⟩
set_option maxRecDepth 100000 in
set_option maxHeartbeats 8000000 in
theorem walk2n (n0 n1 b : Nat) (l0 : n0 < 18446744073709551616) (l1 : n1 < 18446744073709551616) (lb : b < 18446744073709551616) (HBB : Hid (n0 &&& n1 = b)) (hu : Hid (underF b n0 = true)) (a2 a3 x : Int) (hx : a2.tmod 66 = x) (x0 : 0 ≤ x) (x1 : x ≤ 65) (_z0 : 0 ≤ a2) (_z1 : a2 ≤ 255) (_z2 : 0 ≤ a3) (_z3 : a3 ≤ 255) (hk : a3.tmod 3 = 1) (hF : tGrey n0 b x = false) (w : World) (hE : EnvL w) : Calls Tryd.prog 4 #[.int .u64 n0, .int .u64 n1, .int .u8 a2, .int .u8 a3] w fun e w' => e = .returned (.bool true) ∧ Below w.heap.size w w' := by
  have gT := guardT
  have hB : Below w.heap.size w w := Below.refl _ _
  have HV := hide hE
  clear hE
  have F1 := hide hF
  have E := tk_no (k := 2) hF
  have E1 := hide (show ((n0 : Nat) : Int) = ((n0 : Nat) : Int) from congrArg Nat.cast E.1.symm)
  have E2 := hide (show ((b : Nat) : Int) = ((scB n0 b x : Nat) : Int) from congrArg Nat.cast E.2.symm)
  clear E
  have HR := hide (show true = tRight n0 b 64 from (show tRight n0 b 64 = true by rw [right_all b l0]; exact hu.out).symm)
  have lp := l0
  have lq := lb
  have HG := hide (show decide (tOf n0 b x = 1) = false by rw [← grey_one]; exact hF)
  clear hF
  go_enter Tryd.func4, Tryd.ntmps4
  go_wp2_with fail
  (with_reducible refine (examples_any _ HV.out).mono ?_)
  rintro e w1 ⟨rfl, hb1⟩
  replace HV := hide (HV.out.below hb1)
  replace hB := bcall hB hb1
  have hs1 := hb1.size
  clear hb1
  go_wp2_with fail
  (with_reducible refine (some_any n0 n1 l0 l1 _).mono ?_)
  rintro e w2 ⟨rfl, hb2⟩
  replace HV := hide (HV.out.below hb2)
  replace hB := bcall hB hb2
  have hs2 := hb2.size
  clear hb2
  rw [HBB.out]
  obtain ⟨w3, e3, hb3, hs3, t0, t1, u0, u1, -, -, gu0, gu1⟩ := box3 w2 (.int .u64 n0) (.int .u64 b) (.int .u64 n0) (.int .u64 b) 25
  have HE3 := hide e3
  clear e3
  replace hB := bcall hB hb3
  clear hb3
  go_wp2_with fail
  rw [HE3.out]
  (with_reducible refine (Scan_c n0 b x _ _ ((b : Nat) : Int) false l0 lb (by omega) (by omega) rfl rfl E2.out F1.out.symm _).mono ?_)
  rintro e w4 ⟨rfl, hb4⟩
  replace gu0 := keepf hb4 u0 gu0
  replace gu1 := keepf hb4 u1 gu1
  replace t0 := keepc hb4 t0
  replace t1 := keepc hb4 t1
  replace u0 := keepc hb4 u0
  replace u1 := keepc hb4 u1
  replace hB := bcall hB hb4
  have hs4 := hb4.size
  clear hb4
  have ne5_0 : ¬ w2.heap.size = w2.heap.size + 1 := by omega
  have nf5_0 : ¬ w2.heap.size + 1 = w2.heap.size := by omega
  obtain ⟨w5, e5, qu0, qu1, hb5, hs5⟩ := box_store (n := .int .u64 n0) (v := .int .u64 b) u0 u1 gu0 gu1
  have HE5 := hide e5
  clear e5
  have K_t0 := keeps hb5 (p := ⟨w2.heap.size, 0, none⟩) (show w2.heap.size < w2.heap.size + 1 by omega) (show w2.heap.size + 1 ≤ w4.heap.size by omega) t0
  have K_t1 := keeps hb5 (p := ⟨w2.heap.size, 1, none⟩) (show w2.heap.size < w2.heap.size + 1 by omega) (show w2.heap.size + 1 ≤ w4.heap.size by omega) t1
  go_upto_region 14 with (fail)
  rw [HE5.out]
  clear u0 u1 gu0 gu1 t0 t1
  have t0 := K_t0
  have t1 := K_t1
  have u0 := qu0
  have u1 := qu1
  clear K_t0 K_t1
  clear qu0 qu1
  replace hB := Below.trans hB (hb5.mono (show w.heap.size ≤ w2.heap.size + 1 by omega))
  clear hb5
  have H0 := hide (cD_zero false x0)
  go_wp2
  go_loopw [14, 15] (fun fv iv wr => ∃ k : Nat, k ≤ 66 ∧ iv = .int .i64 (k : Int) ∧ fv = .int .i64 (cD false x k) ∧ Below w5.heap.size w5 wr) (fun _ iv _ => 66 - (Go.RowKit.intOf iv).toNat)
  case atStart => exact ⟨0, Nat.zero_le _, rfl, by rw [H0.out], Below.refl _ _⟩
  case round =>
    obtain ⟨k, hk, rfl, rfl, hbw⟩ := hrel
    have t0 := keepc hbw t0
    have t1 := keepc hbw t1
    have u0 := keepc hbw u0
    have u1 := keepc hbw u1
    replace hB := bcall hB hbw
    by_cases hlt : k < 66
    · have q2 : (k : Int) ≤ 65 := by omega
      have HT := hide (show cD false x (k + 1) = cD false x k by rw [cD_no, cD_no])
      have hBw := Below.refl wr.heap.size wr
      have Q_t0 : ∀ pp : BW wr, pp.w.cell? ⟨w2.heap.size, 0, none⟩ = some (.int .u64 n0) := fun pp => keepc pp.b t0
      have Q_t1 : ∀ pp : BW wr, pp.w.cell? ⟨w2.heap.size, 1, none⟩ = some (.int .u64 b) := fun pp => keepc pp.b t1
      have Q_u0 : ∀ pp : BW wr, pp.w.cell? ⟨w2.heap.size + 1, 0, none⟩ = some (.int .u64 n0) := fun pp => keepc pp.b u0
      have Q_u1 : ∀ pp : BW wr, pp.w.cell? ⟨w2.heap.size + 1, 1, none⟩ = some (.int .u64 b) := fun pp => keepc pp.b u1
      go_wp2
      refine wp_region_below (by kernel_rfl) (by kernel_rfl) ?_
      repeat (go_big_quiet_step (first | (with_reducible refine below_of (Of_any n0 b _ l0 lb (by omega) (by omega) _))))
      refine wpQuiet_nil ?_
      intro w6 hw'
      obtain ⟨pq_, hq_⟩ := hw'
      have hb6 := pq_.b
      rw [← hq_] at hb6
      clear hq_ pq_
      clear Q_t0 Q_t1 Q_u0 Q_u1
      replace t0 := keepc hb6 t0
      replace t1 := keepc hb6 t1
      replace u0 := keepc hb6 u0
      replace u1 := keepc hb6 u1
      replace hBw := bcall hBw hb6
      have hs6 := hb6.size
      clear hb6
      have Q_t0 : ∀ pp : BW w6, pp.w.cell? ⟨w2.heap.size, 0, none⟩ = some (.int .u64 n0) := fun pp => keepc pp.b t0
      have Q_t1 : ∀ pp : BW w6, pp.w.cell? ⟨w2.heap.size, 1, none⟩ = some (.int .u64 b) := fun pp => keepc pp.b t1
      have Q_u0 : ∀ pp : BW w6, pp.w.cell? ⟨w2.heap.size + 1, 0, none⟩ = some (.int .u64 n0) := fun pp => keepc pp.b u0
      have Q_u1 : ∀ pp : BW w6, pp.w.cell? ⟨w2.heap.size + 1, 1, none⟩ = some (.int .u64 b) := fun pp => keepc pp.b u1
      go_wp2
      refine wp_region_below (by kernel_rfl) (by kernel_rfl) ?_
      repeat (go_big_quiet_step (first | (with_reducible refine below_of (Of_any n0 b _ l0 lb (by omega) (by omega) _))))
      refine wpQuiet_nil ?_
      intro w7 hw'
      obtain ⟨pq_, hq_⟩ := hw'
      have hb7 := pq_.b
      rw [← hq_] at hb7
      clear hq_ pq_
      clear Q_t0 Q_t1 Q_u0 Q_u1
      replace t0 := keepc hb7 t0
      replace t1 := keepc hb7 t1
      replace u0 := keepc hb7 u0
      replace u1 := keepc hb7 u1
      replace hBw := bcall hBw hb7
      have hs7 := hb7.size
      clear hb7
      go_wp2
      go_roundw
      case rel => exact ⟨k + 1, by omega, by go_num, by rw [HT.out], bcall hbw hBw⟩
      case measure => simp [Go.RowKit.intOf]; omega
    · have q2 : ¬ (k : Int) ≤ 65 := by omega
      have ek : k = 66 := by omega
      subst ek
      rw [show cD false x 66 = 0 from cD_no x 66]
      by_cases r1 : 1 ≤ x
      · by_cases r2 : x ≤ 64
        · obtain ⟨V, hV⟩ : ∃ V, tOf n0 b x = V := ⟨_, rfl⟩
          have HV_ := hide hV.symm
          have v1 : ¬ V = 1 := fun h => by have := HG.out; rw [hV, decide_eq_true h] at this; cases this
          have v2 : (V == 1) = false := by rw [beq_eq_false_iff_ne]; exact v1
          clear hV v1
          cases hz : (V == 0)
          · go_wp2_with fail
            (with_reducible refine (Of_c n0 b x _ _ V l0 lb (by omega) (by omega) rfl rfl HV_.out _).mono ?_)
            rintro e w6 ⟨rfl, hb6⟩
            replace t0 := keepc hb6 t0
            replace t1 := keepc hb6 t1
            replace u0 := keepc hb6 u0
            replace u1 := keepc hb6 u1
            replace hB := bcall hB hb6
            have hs6 := hb6.size
            clear hb6
            go_wp2_with fail
            (with_reducible refine (Of_c n0 b x _ _ V l0 lb (by omega) (by omega) rfl rfl HV_.out _).mono ?_)
            rintro e w7 ⟨rfl, hb7⟩
            replace t0 := keepc hb7 t0
            replace t1 := keepc hb7 t1
            replace u0 := keepc hb7 u0
            replace u1 := keepc hb7 u1
            replace hB := bcall hB hb7
            have hs7 := hb7.size
            clear hb7
            go_wp2_with fail
            (with_reducible refine (Right_c n0 b 64 _ _ true lp lq (by omega) (by omega) rfl rfl HR.out _).mono ?_)
            rintro e w8 ⟨rfl, hb8⟩
            replace t0 := keepc hb8 t0
            replace t1 := keepc hb8 t1
            replace u0 := keepc hb8 u0
            replace u1 := keepc hb8 u1
            replace hB := bcall hB hb8
            have hs8 := hb8.size
            clear hb8
            go_wp2
            go_ret
            exact ⟨rfl, hB⟩
          · go_wp2_with fail
            (with_reducible refine (Of_c n0 b x _ _ V l0 lb (by omega) (by omega) rfl rfl HV_.out _).mono ?_)
            rintro e w6 ⟨rfl, hb6⟩
            replace t0 := keepc hb6 t0
            replace t1 := keepc hb6 t1
            replace u0 := keepc hb6 u0
            replace u1 := keepc hb6 u1
            replace hB := bcall hB hb6
            have hs6 := hb6.size
            clear hb6
            go_wp2_with fail
            (with_reducible refine (Of_c n0 b x _ _ V l0 lb (by omega) (by omega) rfl rfl HV_.out _).mono ?_)
            rintro e w7 ⟨rfl, hb7⟩
            replace t0 := keepc hb7 t0
            replace t1 := keepc hb7 t1
            replace u0 := keepc hb7 u0
            replace u1 := keepc hb7 u1
            replace hB := bcall hB hb7
            have hs7 := hb7.size
            clear hb7
            go_wp2_with fail
            (with_reducible refine (Right_c n0 b 64 _ _ true lp lq (by omega) (by omega) rfl rfl HR.out _).mono ?_)
            rintro e w8 ⟨rfl, hb8⟩
            replace t0 := keepc hb8 t0
            replace t1 := keepc hb8 t1
            replace u0 := keepc hb8 u0
            replace u1 := keepc hb8 u1
            replace hB := bcall hB hb8
            have hs8 := hb8.size
            clear hb8
            go_wp2
            go_ret
            exact ⟨rfl, hB⟩
        · obtain ⟨V, hV⟩ : ∃ V, tOf n0 b x = V := ⟨_, rfl⟩
          have HV_ := hide hV.symm
          have v1 : ¬ V = 1 := fun h => by have := HG.out; rw [hV, decide_eq_true h] at this; cases this
          have v2 : (V == 1) = false := by rw [beq_eq_false_iff_ne]; exact v1
          clear hV v1
          go_wp2_with fail
          (with_reducible refine (Of_c n0 b x _ _ V l0 lb (by omega) (by omega) rfl rfl HV_.out _).mono ?_)
          rintro e w6 ⟨rfl, hb6⟩
          replace t0 := keepc hb6 t0
          replace t1 := keepc hb6 t1
          replace u0 := keepc hb6 u0
          replace u1 := keepc hb6 u1
          replace hB := bcall hB hb6
          have hs6 := hb6.size
          clear hb6
          go_wp2_with fail
          (with_reducible refine (Right_c n0 b 64 _ _ true lp lq (by omega) (by omega) rfl rfl HR.out _).mono ?_)
          rintro e w7 ⟨rfl, hb7⟩
          replace t0 := keepc hb7 t0
          replace t1 := keepc hb7 t1
          replace u0 := keepc hb7 u0
          replace u1 := keepc hb7 u1
          replace hB := bcall hB hb7
          have hs7 := hb7.size
          clear hb7
          go_wp2
          go_ret
          exact ⟨rfl, hB⟩
      · obtain ⟨V, hV⟩ : ∃ V, tOf n0 b x = V := ⟨_, rfl⟩
        have HV_ := hide hV.symm
        have v1 : ¬ V = 1 := fun h => by have := HG.out; rw [hV, decide_eq_true h] at this; cases this
        have v2 : (V == 1) = false := by rw [beq_eq_false_iff_ne]; exact v1
        clear hV v1
        go_wp2_with fail
        (with_reducible refine (Of_c n0 b x _ _ V l0 lb (by omega) (by omega) rfl rfl HV_.out _).mono ?_)
        rintro e w6 ⟨rfl, hb6⟩
        replace t0 := keepc hb6 t0
        replace t1 := keepc hb6 t1
        replace u0 := keepc hb6 u0
        replace u1 := keepc hb6 u1
        replace hB := bcall hB hb6
        have hs6 := hb6.size
        clear hb6
        go_wp2_with fail
        (with_reducible refine (Right_c n0 b 64 _ _ true lp lq (by omega) (by omega) rfl rfl HR.out _).mono ?_)
        rintro e w7 ⟨rfl, hb7⟩
        replace t0 := keepc hb7 t0
        replace t1 := keepc hb7 t1
        replace u0 := keepc hb7 u0
        replace u1 := keepc hb7 u1
        replace hB := bcall hB hb7
        have hs7 := hb7.size
        clear hb7
        go_wp2
        go_ret
        exact ⟨rfl, hB⟩
set_option maxRecDepth 100000 in
set_option maxHeartbeats 8000000 in
theorem walk2y (n0 n1 b : Nat) (l0 : n0 < 18446744073709551616) (l1 : n1 < 18446744073709551616) (lb : b < 18446744073709551616) (HBB : Hid (n0 &&& n1 = b)) (hu : Hid (underF b n0 = true)) (a2 a3 x : Int) (hx : a2.tmod 66 = x) (x0 : 0 ≤ x) (x1 : x ≤ 65) (_z0 : 0 ≤ a2) (_z1 : a2 ≤ 255) (_z2 : 0 ≤ a3) (_z3 : a3 ≤ 255) (hk : a3.tmod 3 = 1) (hF : tGrey n0 b x = true) (w : World) (hE : EnvL w) : Calls Tryd.prog 4 #[.int .u64 n0, .int .u64 n1, .int .u8 a2, .int .u8 a3] w fun e w' => e = .returned (.bool true) ∧ Below w.heap.size w w' := by
  have gT := guardT
  have hB : Below w.heap.size w w := Below.refl _ _
  have HV := hide hE
  clear hE
  have F1 := hide hF
  have HD := hide (fun i => tk_darker (k := 2) (by decide) n0 b x i)
  have HN := hide (fun i => tk_differ (k := 2) (by decide) n0 b x i)
  have HR := hide (show true = tRight n0 (scB n0 b x) 64 from (tk_right (k := 2) (by decide) l0 lb hu.out x).symm)
  have lp : n0 < 18446744073709551616 := tkM_lt 2 b x l0
  have lq : scB n0 b x < 18446744073709551616 := tkB_lt 2 n0 x lb
  have HG := hide (show decide (tOf n0 b x = 1) = true by rw [← grey_one]; exact hF)
  clear hF
  go_enter Tryd.func4, Tryd.ntmps4
  go_wp2_with fail
  (with_reducible refine (examples_any _ HV.out).mono ?_)
  rintro e w1 ⟨rfl, hb1⟩
  replace HV := hide (HV.out.below hb1)
  replace hB := bcall hB hb1
  have hs1 := hb1.size
  clear hb1
  go_wp2_with fail
  (with_reducible refine (some_any n0 n1 l0 l1 _).mono ?_)
  rintro e w2 ⟨rfl, hb2⟩
  replace HV := hide (HV.out.below hb2)
  replace hB := bcall hB hb2
  have hs2 := hb2.size
  clear hb2
  rw [HBB.out]
  obtain ⟨w3, e3, hb3, hs3, t0, t1, u0, u1, -, -, gu0, gu1⟩ := box3 w2 (.int .u64 n0) (.int .u64 b) (.int .u64 n0) (.int .u64 b) 25
  have HE3 := hide e3
  clear e3
  replace hB := bcall hB hb3
  clear hb3
  go_wp2_with fail
  rw [HE3.out]
  (with_reducible refine (Scan_c n0 b x _ _ ((scB n0 b x : Nat) : Int) true l0 lb (by omega) (by omega) rfl rfl rfl F1.out.symm _).mono ?_)
  rintro e w4 ⟨rfl, hb4⟩
  replace gu0 := keepf hb4 u0 gu0
  replace gu1 := keepf hb4 u1 gu1
  replace t0 := keepc hb4 t0
  replace t1 := keepc hb4 t1
  replace u0 := keepc hb4 u0
  replace u1 := keepc hb4 u1
  replace hB := bcall hB hb4
  have hs4 := hb4.size
  clear hb4
  have ne5_0 : ¬ w2.heap.size = w2.heap.size + 1 := by omega
  have nf5_0 : ¬ w2.heap.size + 1 = w2.heap.size := by omega
  obtain ⟨w5, e5, qu0, qu1, hb5, hs5⟩ := box_store (n := .int .u64 n0) (v := .int .u64 (scB n0 b x)) u0 u1 gu0 gu1
  have HE5 := hide e5
  clear e5
  have K_t0 := keeps hb5 (p := ⟨w2.heap.size, 0, none⟩) (show w2.heap.size < w2.heap.size + 1 by omega) (show w2.heap.size + 1 ≤ w4.heap.size by omega) t0
  have K_t1 := keeps hb5 (p := ⟨w2.heap.size, 1, none⟩) (show w2.heap.size < w2.heap.size + 1 by omega) (show w2.heap.size + 1 ≤ w4.heap.size by omega) t1
  go_upto_region 14 with (fail)
  rw [HE5.out]
  clear u0 u1 gu0 gu1 t0 t1
  have t0 := K_t0
  have t1 := K_t1
  have u0 := qu0
  have u1 := qu1
  clear K_t0 K_t1
  clear qu0 qu1
  replace hB := Below.trans hB (hb5.mono (show w.heap.size ≤ w2.heap.size + 1 by omega))
  clear hb5
  have H0 := hide (cD_zero true x0)
  go_wp2
  go_loopw [14, 15] (fun fv iv wr => ∃ k : Nat, k ≤ 66 ∧ iv = .int .i64 (k : Int) ∧ fv = .int .i64 (cD true x k) ∧ Below w5.heap.size w5 wr) (fun _ iv _ => 66 - (Go.RowKit.intOf iv).toNat)
  case atStart => exact ⟨0, Nat.zero_le _, rfl, by rw [H0.out], Below.refl _ _⟩
  case round =>
    obtain ⟨k, hk, rfl, rfl, hbw⟩ := hrel
    have t0 := keepc hbw t0
    have t1 := keepc hbw t1
    have u0 := keepc hbw u0
    have u1 := keepc hbw u1
    replace hB := bcall hB hbw
    by_cases hlt : k < 66
    · have q2 : (k : Int) ≤ 65 := by omega
      by_cases hkx : (k : Int) = x
      · have dd := show tOf n0 b (k : Int) ≤ tOf n0 (scB n0 b x) (k : Int) from HD.out (k : Int)
        have d1 : ¬ tOf n0 (scB n0 b x) (k : Int) < tOf n0 b (k : Int) := by omega
        clear dd
        have d2 : (tOf n0 (scB n0 b x) (k : Int) != tOf n0 b (k : Int)) = true := by rw [bne_iff_ne]; exact (HN.out (k : Int)).2 ⟨F1.out, hkx⟩
        have HT := hide (cD_at hkx).2
        have h0 := (cD_at hkx).1
        rw [h0]
        clear h0 hkx
        have hBw := Below.refl wr.heap.size wr
        have Q_t0 : ∀ pp : BW wr, pp.w.cell? ⟨w2.heap.size, 0, none⟩ = some (.int .u64 n0) := fun pp => keepc pp.b t0
        have Q_t1 : ∀ pp : BW wr, pp.w.cell? ⟨w2.heap.size, 1, none⟩ = some (.int .u64 b) := fun pp => keepc pp.b t1
        have Q_u0 : ∀ pp : BW wr, pp.w.cell? ⟨w2.heap.size + 1, 0, none⟩ = some (.int .u64 n0) := fun pp => keepc pp.b u0
        have Q_u1 : ∀ pp : BW wr, pp.w.cell? ⟨w2.heap.size + 1, 1, none⟩ = some (.int .u64 (scB n0 b x)) := fun pp => keepc pp.b u1
        go_wp2
        refine wp_region_below (by kernel_rfl) (by kernel_rfl) ?_
        repeat (go_big_quiet_step (first | (with_reducible refine below_of (Of_any n0 b _ l0 lb (by omega) (by omega) _)) | (with_reducible refine below_of (Of_any n0 (scB n0 b x) _ lp lq (by omega) (by omega) _))))
        refine wpQuiet_nil ?_
        intro w6 hw'
        obtain ⟨pq_, hq_⟩ := hw'
        have hb6 := pq_.b
        rw [← hq_] at hb6
        clear hq_ pq_
        clear Q_t0 Q_t1 Q_u0 Q_u1
        replace t0 := keepc hb6 t0
        replace t1 := keepc hb6 t1
        replace u0 := keepc hb6 u0
        replace u1 := keepc hb6 u1
        replace hBw := bcall hBw hb6
        have hs6 := hb6.size
        clear hb6
        have Q_t0 : ∀ pp : BW w6, pp.w.cell? ⟨w2.heap.size, 0, none⟩ = some (.int .u64 n0) := fun pp => keepc pp.b t0
        have Q_t1 : ∀ pp : BW w6, pp.w.cell? ⟨w2.heap.size, 1, none⟩ = some (.int .u64 b) := fun pp => keepc pp.b t1
        have Q_u0 : ∀ pp : BW w6, pp.w.cell? ⟨w2.heap.size + 1, 0, none⟩ = some (.int .u64 n0) := fun pp => keepc pp.b u0
        have Q_u1 : ∀ pp : BW w6, pp.w.cell? ⟨w2.heap.size + 1, 1, none⟩ = some (.int .u64 (scB n0 b x)) := fun pp => keepc pp.b u1
        go_wp2
        refine wp_region_below (by kernel_rfl) (by kernel_rfl) ?_
        repeat (go_big_quiet_step (first | (with_reducible refine below_of (Of_any n0 b _ l0 lb (by omega) (by omega) _)) | (with_reducible refine below_of (Of_any n0 (scB n0 b x) _ lp lq (by omega) (by omega) _))))
        refine wpQuiet_nil ?_
        intro w7 hw'
        obtain ⟨pq_, hq_⟩ := hw'
        have hb7 := pq_.b
        rw [← hq_] at hb7
        clear hq_ pq_
        clear Q_t0 Q_t1 Q_u0 Q_u1
        replace t0 := keepc hb7 t0
        replace t1 := keepc hb7 t1
        replace u0 := keepc hb7 u0
        replace u1 := keepc hb7 u1
        replace hBw := bcall hBw hb7
        have hs7 := hb7.size
        clear hb7
        go_wp2
        go_roundw
        case rel => exact ⟨k + 1, by omega, by go_num, by rw [HT.out], bcall hbw hBw⟩
        case measure => simp [Go.RowKit.intOf]; omega
      · have dd := show tOf n0 b (k : Int) ≤ tOf n0 (scB n0 b x) (k : Int) from HD.out (k : Int)
        have d1 : ¬ tOf n0 (scB n0 b x) (k : Int) < tOf n0 b (k : Int) := by omega
        clear dd
        have d2 : (tOf n0 (scB n0 b x) (k : Int) != tOf n0 b (k : Int)) = false := by rw [bne_eq_false_iff_eq]; exact Decidable.byContradiction fun h => hkx ((HN.out (k : Int)).1 h).2
        have HT := hide (cD_off hkx)
        have hBw := Below.refl wr.heap.size wr
        have Q_t0 : ∀ pp : BW wr, pp.w.cell? ⟨w2.heap.size, 0, none⟩ = some (.int .u64 n0) := fun pp => keepc pp.b t0
        have Q_t1 : ∀ pp : BW wr, pp.w.cell? ⟨w2.heap.size, 1, none⟩ = some (.int .u64 b) := fun pp => keepc pp.b t1
        have Q_u0 : ∀ pp : BW wr, pp.w.cell? ⟨w2.heap.size + 1, 0, none⟩ = some (.int .u64 n0) := fun pp => keepc pp.b u0
        have Q_u1 : ∀ pp : BW wr, pp.w.cell? ⟨w2.heap.size + 1, 1, none⟩ = some (.int .u64 (scB n0 b x)) := fun pp => keepc pp.b u1
        go_wp2
        refine wp_region_below (by kernel_rfl) (by kernel_rfl) ?_
        repeat (go_big_quiet_step (first | (with_reducible refine below_of (Of_any n0 b _ l0 lb (by omega) (by omega) _)) | (with_reducible refine below_of (Of_any n0 (scB n0 b x) _ lp lq (by omega) (by omega) _))))
        refine wpQuiet_nil ?_
        intro w6 hw'
        obtain ⟨pq_, hq_⟩ := hw'
        have hb6 := pq_.b
        rw [← hq_] at hb6
        clear hq_ pq_
        clear Q_t0 Q_t1 Q_u0 Q_u1
        replace t0 := keepc hb6 t0
        replace t1 := keepc hb6 t1
        replace u0 := keepc hb6 u0
        replace u1 := keepc hb6 u1
        replace hBw := bcall hBw hb6
        have hs6 := hb6.size
        clear hb6
        have Q_t0 : ∀ pp : BW w6, pp.w.cell? ⟨w2.heap.size, 0, none⟩ = some (.int .u64 n0) := fun pp => keepc pp.b t0
        have Q_t1 : ∀ pp : BW w6, pp.w.cell? ⟨w2.heap.size, 1, none⟩ = some (.int .u64 b) := fun pp => keepc pp.b t1
        have Q_u0 : ∀ pp : BW w6, pp.w.cell? ⟨w2.heap.size + 1, 0, none⟩ = some (.int .u64 n0) := fun pp => keepc pp.b u0
        have Q_u1 : ∀ pp : BW w6, pp.w.cell? ⟨w2.heap.size + 1, 1, none⟩ = some (.int .u64 (scB n0 b x)) := fun pp => keepc pp.b u1
        go_wp2
        refine wp_region_below (by kernel_rfl) (by kernel_rfl) ?_
        repeat (go_big_quiet_step (first | (with_reducible refine below_of (Of_any n0 b _ l0 lb (by omega) (by omega) _)) | (with_reducible refine below_of (Of_any n0 (scB n0 b x) _ lp lq (by omega) (by omega) _))))
        refine wpQuiet_nil ?_
        intro w7 hw'
        obtain ⟨pq_, hq_⟩ := hw'
        have hb7 := pq_.b
        rw [← hq_] at hb7
        clear hq_ pq_
        clear Q_t0 Q_t1 Q_u0 Q_u1
        replace t0 := keepc hb7 t0
        replace t1 := keepc hb7 t1
        replace u0 := keepc hb7 u0
        replace u1 := keepc hb7 u1
        replace hBw := bcall hBw hb7
        have hs7 := hb7.size
        clear hb7
        go_wp2
        go_roundw
        case rel => exact ⟨k + 1, by omega, by go_num, by rw [HT.out], bcall hbw hBw⟩
        case measure => simp [Go.RowKit.intOf]; omega
    · have q2 : ¬ (k : Int) ≤ 65 := by omega
      have ek : k = 66 := by omega
      subst ek
      rw [show cD true x 66 = 1 from cD_end x1]
      have hg := of_decide_eq_true HG.out
      obtain ⟨r1, r2⟩ := show 1 ≤ x ∧ x ≤ 64 from by
          by_cases h : hasF n0 x = true
          · exact has_in h
          · rw [tOf_no _ _ _ (by simpa using h)] at hg; cases hg
      have HV_ := hide hg.symm
      clear hg
      go_wp2_with fail
      (with_reducible refine (Of_c n0 b x _ _ 1 l0 lb (by omega) (by omega) rfl rfl HV_.out _).mono ?_)
      rintro e w6 ⟨rfl, hb6⟩
      replace t0 := keepc hb6 t0
      replace t1 := keepc hb6 t1
      replace u0 := keepc hb6 u0
      replace u1 := keepc hb6 u1
      replace hB := bcall hB hb6
      have hs6 := hb6.size
      clear hb6
      go_wp2_with fail
      (with_reducible refine (Of_c n0 b x _ _ 1 l0 lb (by omega) (by omega) rfl rfl HV_.out _).mono ?_)
      rintro e w7 ⟨rfl, hb7⟩
      replace t0 := keepc hb7 t0
      replace t1 := keepc hb7 t1
      replace u0 := keepc hb7 u0
      replace u1 := keepc hb7 u1
      replace hB := bcall hB hb7
      have hs7 := hb7.size
      clear hb7
      go_wp2_with fail
      (with_reducible refine (Right_c n0 (scB n0 b x) 64 _ _ true lp lq (by omega) (by omega) rfl rfl HR.out _).mono ?_)
      rintro e w8 ⟨rfl, hb8⟩
      replace t0 := keepc hb8 t0
      replace t1 := keepc hb8 t1
      replace u0 := keepc hb8 u0
      replace u1 := keepc hb8 u1
      replace hB := bcall hB hb8
      have hs8 := hb8.size
      clear hb8
      go_wp2
      go_ret
      exact ⟨rfl, hB⟩
set_option maxRecDepth 100000 in
set_option maxHeartbeats 8000000 in
theorem walk3n (n0 n1 b : Nat) (l0 : n0 < 18446744073709551616) (l1 : n1 < 18446744073709551616) (lb : b < 18446744073709551616) (HBB : Hid (n0 &&& n1 = b)) (hu : Hid (underF b n0 = true)) (a2 a3 x : Int) (hx : a2.tmod 66 = x) (x0 : 0 ≤ x) (x1 : x ≤ 65) (_z0 : 0 ≤ a2) (_z1 : a2 ≤ 255) (_z2 : 0 ≤ a3) (_z3 : a3 ≤ 255) (hk : a3.tmod 3 = 2) (hF : tFree n0 b x = false) (w : World) (hE : EnvL w) : Calls Tryd.prog 4 #[.int .u64 n0, .int .u64 n1, .int .u8 a2, .int .u8 a3] w fun e w' => e = .returned (.bool true) ∧ Below w.heap.size w w' := by
  have gT := guardT
  have hB : Below w.heap.size w w := Below.refl _ _
  have HV := hide hE
  clear hE
  have F1 := hide hF
  have E := tk_no (k := 3) hF
  have E1 := hide (show ((n0 : Nat) : Int) = ((shM n0 b x : Nat) : Int) from congrArg Nat.cast E.1.symm)
  have E2 := hide (show ((b : Nat) : Int) = ((frB n0 b x : Nat) : Int) from congrArg Nat.cast E.2.symm)
  clear E
  have HR := hide (show true = tRight n0 b 64 from (show tRight n0 b 64 = true by rw [right_all b l0]; exact hu.out).symm)
  have lp := l0
  have lq := lb
  have HG := hide (show (decide (1 ≤ x) && (decide (x ≤ 64) && decide (tOf n0 b x = 0))) = false by rw [← free_white l0 lb hu.out]; exact hF)
  clear hF
  go_enter Tryd.func4, Tryd.ntmps4
  go_wp2_with fail
  (with_reducible refine (examples_any _ HV.out).mono ?_)
  rintro e w1 ⟨rfl, hb1⟩
  replace HV := hide (HV.out.below hb1)
  replace hB := bcall hB hb1
  have hs1 := hb1.size
  clear hb1
  go_wp2_with fail
  (with_reducible refine (some_any n0 n1 l0 l1 _).mono ?_)
  rintro e w2 ⟨rfl, hb2⟩
  replace HV := hide (HV.out.below hb2)
  replace hB := bcall hB hb2
  have hs2 := hb2.size
  clear hb2
  rw [HBB.out]
  obtain ⟨w3, e3, hb3, hs3, t0, t1, u0, u1, -, -, gu0, gu1⟩ := box3 w2 (.int .u64 n0) (.int .u64 b) (.int .u64 n0) (.int .u64 b) 25
  have HE3 := hide e3
  clear e3
  replace hB := bcall hB hb3
  clear hb3
  go_wp2_with fail
  rw [HE3.out]
  (with_reducible refine (Fresh_c n0 b x _ _ ((n0 : Nat) : Int) ((b : Nat) : Int) false l0 lb (by omega) (by omega) rfl rfl E1.out E2.out F1.out.symm _).mono ?_)
  rintro e w4 ⟨rfl, hb4⟩
  replace gu0 := keepf hb4 u0 gu0
  replace gu1 := keepf hb4 u1 gu1
  replace t0 := keepc hb4 t0
  replace t1 := keepc hb4 t1
  replace u0 := keepc hb4 u0
  replace u1 := keepc hb4 u1
  replace hB := bcall hB hb4
  have hs4 := hb4.size
  clear hb4
  have ne5_0 : ¬ w2.heap.size = w2.heap.size + 1 := by omega
  have nf5_0 : ¬ w2.heap.size + 1 = w2.heap.size := by omega
  obtain ⟨w5, e5, qu0, qu1, hb5, hs5⟩ := box_store (n := .int .u64 n0) (v := .int .u64 b) u0 u1 gu0 gu1
  have HE5 := hide e5
  clear e5
  have K_t0 := keeps hb5 (p := ⟨w2.heap.size, 0, none⟩) (show w2.heap.size < w2.heap.size + 1 by omega) (show w2.heap.size + 1 ≤ w4.heap.size by omega) t0
  have K_t1 := keeps hb5 (p := ⟨w2.heap.size, 1, none⟩) (show w2.heap.size < w2.heap.size + 1 by omega) (show w2.heap.size + 1 ≤ w4.heap.size by omega) t1
  go_upto_region 14 with (fail)
  rw [HE5.out]
  clear u0 u1 gu0 gu1 t0 t1
  have t0 := K_t0
  have t1 := K_t1
  have u0 := qu0
  have u1 := qu1
  clear K_t0 K_t1
  clear qu0 qu1
  replace hB := Below.trans hB (hb5.mono (show w.heap.size ≤ w2.heap.size + 1 by omega))
  clear hb5
  have H0 := hide (cD_zero false x0)
  go_wp2
  go_loopw [14, 15] (fun fv iv wr => ∃ k : Nat, k ≤ 66 ∧ iv = .int .i64 (k : Int) ∧ fv = .int .i64 (cD false x k) ∧ Below w5.heap.size w5 wr) (fun _ iv _ => 66 - (Go.RowKit.intOf iv).toNat)
  case atStart => exact ⟨0, Nat.zero_le _, rfl, by rw [H0.out], Below.refl _ _⟩
  case round =>
    obtain ⟨k, hk, rfl, rfl, hbw⟩ := hrel
    have t0 := keepc hbw t0
    have t1 := keepc hbw t1
    have u0 := keepc hbw u0
    have u1 := keepc hbw u1
    replace hB := bcall hB hbw
    by_cases hlt : k < 66
    · have q2 : (k : Int) ≤ 65 := by omega
      have HT := hide (show cD false x (k + 1) = cD false x k by rw [cD_no, cD_no])
      have hBw := Below.refl wr.heap.size wr
      have Q_t0 : ∀ pp : BW wr, pp.w.cell? ⟨w2.heap.size, 0, none⟩ = some (.int .u64 n0) := fun pp => keepc pp.b t0
      have Q_t1 : ∀ pp : BW wr, pp.w.cell? ⟨w2.heap.size, 1, none⟩ = some (.int .u64 b) := fun pp => keepc pp.b t1
      have Q_u0 : ∀ pp : BW wr, pp.w.cell? ⟨w2.heap.size + 1, 0, none⟩ = some (.int .u64 n0) := fun pp => keepc pp.b u0
      have Q_u1 : ∀ pp : BW wr, pp.w.cell? ⟨w2.heap.size + 1, 1, none⟩ = some (.int .u64 b) := fun pp => keepc pp.b u1
      go_wp2
      refine wp_region_below (by kernel_rfl) (by kernel_rfl) ?_
      repeat (go_big_quiet_step (first | (with_reducible refine below_of (Of_any n0 b _ l0 lb (by omega) (by omega) _))))
      refine wpQuiet_nil ?_
      intro w6 hw'
      obtain ⟨pq_, hq_⟩ := hw'
      have hb6 := pq_.b
      rw [← hq_] at hb6
      clear hq_ pq_
      clear Q_t0 Q_t1 Q_u0 Q_u1
      replace t0 := keepc hb6 t0
      replace t1 := keepc hb6 t1
      replace u0 := keepc hb6 u0
      replace u1 := keepc hb6 u1
      replace hBw := bcall hBw hb6
      have hs6 := hb6.size
      clear hb6
      have Q_t0 : ∀ pp : BW w6, pp.w.cell? ⟨w2.heap.size, 0, none⟩ = some (.int .u64 n0) := fun pp => keepc pp.b t0
      have Q_t1 : ∀ pp : BW w6, pp.w.cell? ⟨w2.heap.size, 1, none⟩ = some (.int .u64 b) := fun pp => keepc pp.b t1
      have Q_u0 : ∀ pp : BW w6, pp.w.cell? ⟨w2.heap.size + 1, 0, none⟩ = some (.int .u64 n0) := fun pp => keepc pp.b u0
      have Q_u1 : ∀ pp : BW w6, pp.w.cell? ⟨w2.heap.size + 1, 1, none⟩ = some (.int .u64 b) := fun pp => keepc pp.b u1
      go_wp2
      refine wp_region_below (by kernel_rfl) (by kernel_rfl) ?_
      repeat (go_big_quiet_step (first | (with_reducible refine below_of (Of_any n0 b _ l0 lb (by omega) (by omega) _))))
      refine wpQuiet_nil ?_
      intro w7 hw'
      obtain ⟨pq_, hq_⟩ := hw'
      have hb7 := pq_.b
      rw [← hq_] at hb7
      clear hq_ pq_
      clear Q_t0 Q_t1 Q_u0 Q_u1
      replace t0 := keepc hb7 t0
      replace t1 := keepc hb7 t1
      replace u0 := keepc hb7 u0
      replace u1 := keepc hb7 u1
      replace hBw := bcall hBw hb7
      have hs7 := hb7.size
      clear hb7
      go_wp2
      go_roundw
      case rel => exact ⟨k + 1, by omega, by go_num, by rw [HT.out], bcall hbw hBw⟩
      case measure => simp [Go.RowKit.intOf]; omega
    · have q2 : ¬ (k : Int) ≤ 65 := by omega
      have ek : k = 66 := by omega
      subst ek
      rw [show cD false x 66 = 0 from cD_no x 66]
      by_cases r1 : 1 ≤ x
      · by_cases r2 : x ≤ 64
        · obtain ⟨V, hV⟩ : ∃ V, tOf n0 b x = V := ⟨_, rfl⟩
          have HV_ := hide hV.symm
          have v0 : ¬ V = 0 := fun h => by have := HG.out; rw [hV, decide_eq_true r1, decide_eq_true r2, decide_eq_true h] at this; cases this
          have v1 : (V == 0) = false := by rw [beq_eq_false_iff_ne]; exact v0
          clear hV v0
          go_wp2_with fail
          (with_reducible refine (Of_c n0 b x _ _ V l0 lb (by omega) (by omega) rfl rfl HV_.out _).mono ?_)
          rintro e w6 ⟨rfl, hb6⟩
          replace t0 := keepc hb6 t0
          replace t1 := keepc hb6 t1
          replace u0 := keepc hb6 u0
          replace u1 := keepc hb6 u1
          replace hB := bcall hB hb6
          have hs6 := hb6.size
          clear hb6
          go_wp2_with fail
          (with_reducible refine (Right_c n0 b 64 _ _ true lp lq (by omega) (by omega) rfl rfl HR.out _).mono ?_)
          rintro e w7 ⟨rfl, hb7⟩
          replace t0 := keepc hb7 t0
          replace t1 := keepc hb7 t1
          replace u0 := keepc hb7 u0
          replace u1 := keepc hb7 u1
          replace hB := bcall hB hb7
          have hs7 := hb7.size
          clear hb7
          go_wp2
          go_ret
          exact ⟨rfl, hB⟩
        · go_wp2_with fail
          (with_reducible refine (Right_c n0 b 64 _ _ true lp lq (by omega) (by omega) rfl rfl HR.out _).mono ?_)
          rintro e w6 ⟨rfl, hb6⟩
          replace t0 := keepc hb6 t0
          replace t1 := keepc hb6 t1
          replace u0 := keepc hb6 u0
          replace u1 := keepc hb6 u1
          replace hB := bcall hB hb6
          have hs6 := hb6.size
          clear hb6
          go_wp2
          go_ret
          exact ⟨rfl, hB⟩
      · go_wp2_with fail
        (with_reducible refine (Right_c n0 b 64 _ _ true lp lq (by omega) (by omega) rfl rfl HR.out _).mono ?_)
        rintro e w6 ⟨rfl, hb6⟩
        replace t0 := keepc hb6 t0
        replace t1 := keepc hb6 t1
        replace u0 := keepc hb6 u0
        replace u1 := keepc hb6 u1
        replace hB := bcall hB hb6
        have hs6 := hb6.size
        clear hb6
        go_wp2
        go_ret
        exact ⟨rfl, hB⟩
set_option maxRecDepth 100000 in
set_option maxHeartbeats 8000000 in
theorem walk3y (n0 n1 b : Nat) (l0 : n0 < 18446744073709551616) (l1 : n1 < 18446744073709551616) (lb : b < 18446744073709551616) (HBB : Hid (n0 &&& n1 = b)) (hu : Hid (underF b n0 = true)) (a2 a3 x : Int) (hx : a2.tmod 66 = x) (x0 : 0 ≤ x) (x1 : x ≤ 65) (_z0 : 0 ≤ a2) (_z1 : a2 ≤ 255) (_z2 : 0 ≤ a3) (_z3 : a3 ≤ 255) (hk : a3.tmod 3 = 2) (hF : tFree n0 b x = true) (w : World) (hE : EnvL w) : Calls Tryd.prog 4 #[.int .u64 n0, .int .u64 n1, .int .u8 a2, .int .u8 a3] w fun e w' => e = .returned (.bool true) ∧ Below w.heap.size w w' := by
  have gT := guardT
  have hB : Below w.heap.size w w := Below.refl _ _
  have HV := hide hE
  clear hE
  have F1 := hide hF
  have HD := hide (fun i => tk_darker (k := 3) (by decide) n0 b x i)
  have HN := hide (fun i => tk_differ (k := 3) (by decide) n0 b x i)
  have HR := hide (show true = tRight (shM n0 b x) (frB n0 b x) 64 from (tk_right (k := 3) (by decide) l0 lb hu.out x).symm)
  have lp : shM n0 b x < 18446744073709551616 := tkM_lt 3 b x l0
  have lq : frB n0 b x < 18446744073709551616 := tkB_lt 3 n0 x lb
  have HG := hide (show (decide (1 ≤ x) && (decide (x ≤ 64) && decide (tOf n0 b x = 0))) = true by rw [← free_white l0 lb hu.out]; exact hF)
  clear hF
  go_enter Tryd.func4, Tryd.ntmps4
  go_wp2_with fail
  (with_reducible refine (examples_any _ HV.out).mono ?_)
  rintro e w1 ⟨rfl, hb1⟩
  replace HV := hide (HV.out.below hb1)
  replace hB := bcall hB hb1
  have hs1 := hb1.size
  clear hb1
  go_wp2_with fail
  (with_reducible refine (some_any n0 n1 l0 l1 _).mono ?_)
  rintro e w2 ⟨rfl, hb2⟩
  replace HV := hide (HV.out.below hb2)
  replace hB := bcall hB hb2
  have hs2 := hb2.size
  clear hb2
  rw [HBB.out]
  obtain ⟨w3, e3, hb3, hs3, t0, t1, u0, u1, -, -, gu0, gu1⟩ := box3 w2 (.int .u64 n0) (.int .u64 b) (.int .u64 n0) (.int .u64 b) 25
  have HE3 := hide e3
  clear e3
  replace hB := bcall hB hb3
  clear hb3
  go_wp2_with fail
  rw [HE3.out]
  (with_reducible refine (Fresh_c n0 b x _ _ ((shM n0 b x : Nat) : Int) ((frB n0 b x : Nat) : Int) true l0 lb (by omega) (by omega) rfl rfl rfl rfl F1.out.symm _).mono ?_)
  rintro e w4 ⟨rfl, hb4⟩
  replace gu0 := keepf hb4 u0 gu0
  replace gu1 := keepf hb4 u1 gu1
  replace t0 := keepc hb4 t0
  replace t1 := keepc hb4 t1
  replace u0 := keepc hb4 u0
  replace u1 := keepc hb4 u1
  replace hB := bcall hB hb4
  have hs4 := hb4.size
  clear hb4
  have ne5_0 : ¬ w2.heap.size = w2.heap.size + 1 := by omega
  have nf5_0 : ¬ w2.heap.size + 1 = w2.heap.size := by omega
  obtain ⟨w5, e5, qu0, qu1, hb5, hs5⟩ := box_store (n := .int .u64 (shM n0 b x)) (v := .int .u64 (frB n0 b x)) u0 u1 gu0 gu1
  have HE5 := hide e5
  clear e5
  have K_t0 := keeps hb5 (p := ⟨w2.heap.size, 0, none⟩) (show w2.heap.size < w2.heap.size + 1 by omega) (show w2.heap.size + 1 ≤ w4.heap.size by omega) t0
  have K_t1 := keeps hb5 (p := ⟨w2.heap.size, 1, none⟩) (show w2.heap.size < w2.heap.size + 1 by omega) (show w2.heap.size + 1 ≤ w4.heap.size by omega) t1
  go_upto_region 14 with (fail)
  rw [HE5.out]
  clear u0 u1 gu0 gu1 t0 t1
  have t0 := K_t0
  have t1 := K_t1
  have u0 := qu0
  have u1 := qu1
  clear K_t0 K_t1
  clear qu0 qu1
  replace hB := Below.trans hB (hb5.mono (show w.heap.size ≤ w2.heap.size + 1 by omega))
  clear hb5
  have H0 := hide (cD_zero true x0)
  go_wp2
  go_loopw [14, 15] (fun fv iv wr => ∃ k : Nat, k ≤ 66 ∧ iv = .int .i64 (k : Int) ∧ fv = .int .i64 (cD true x k) ∧ Below w5.heap.size w5 wr) (fun _ iv _ => 66 - (Go.RowKit.intOf iv).toNat)
  case atStart => exact ⟨0, Nat.zero_le _, rfl, by rw [H0.out], Below.refl _ _⟩
  case round =>
    obtain ⟨k, hk, rfl, rfl, hbw⟩ := hrel
    have t0 := keepc hbw t0
    have t1 := keepc hbw t1
    have u0 := keepc hbw u0
    have u1 := keepc hbw u1
    replace hB := bcall hB hbw
    by_cases hlt : k < 66
    · have q2 : (k : Int) ≤ 65 := by omega
      by_cases hkx : (k : Int) = x
      · have dd := show tOf n0 b (k : Int) ≤ tOf (shM n0 b x) (frB n0 b x) (k : Int) from HD.out (k : Int)
        have d1 : ¬ tOf (shM n0 b x) (frB n0 b x) (k : Int) < tOf n0 b (k : Int) := by omega
        clear dd
        have d2 : (tOf (shM n0 b x) (frB n0 b x) (k : Int) != tOf n0 b (k : Int)) = true := by rw [bne_iff_ne]; exact (HN.out (k : Int)).2 ⟨F1.out, hkx⟩
        have HT := hide (cD_at hkx).2
        have h0 := (cD_at hkx).1
        rw [h0]
        clear h0 hkx
        have hBw := Below.refl wr.heap.size wr
        have Q_t0 : ∀ pp : BW wr, pp.w.cell? ⟨w2.heap.size, 0, none⟩ = some (.int .u64 n0) := fun pp => keepc pp.b t0
        have Q_t1 : ∀ pp : BW wr, pp.w.cell? ⟨w2.heap.size, 1, none⟩ = some (.int .u64 b) := fun pp => keepc pp.b t1
        have Q_u0 : ∀ pp : BW wr, pp.w.cell? ⟨w2.heap.size + 1, 0, none⟩ = some (.int .u64 (shM n0 b x)) := fun pp => keepc pp.b u0
        have Q_u1 : ∀ pp : BW wr, pp.w.cell? ⟨w2.heap.size + 1, 1, none⟩ = some (.int .u64 (frB n0 b x)) := fun pp => keepc pp.b u1
        go_wp2
        refine wp_region_below (by kernel_rfl) (by kernel_rfl) ?_
        repeat (go_big_quiet_step (first | (with_reducible refine below_of (Of_any n0 b _ l0 lb (by omega) (by omega) _)) | (with_reducible refine below_of (Of_any (shM n0 b x) (frB n0 b x) _ lp lq (by omega) (by omega) _))))
        refine wpQuiet_nil ?_
        intro w6 hw'
        obtain ⟨pq_, hq_⟩ := hw'
        have hb6 := pq_.b
        rw [← hq_] at hb6
        clear hq_ pq_
        clear Q_t0 Q_t1 Q_u0 Q_u1
        replace t0 := keepc hb6 t0
        replace t1 := keepc hb6 t1
        replace u0 := keepc hb6 u0
        replace u1 := keepc hb6 u1
        replace hBw := bcall hBw hb6
        have hs6 := hb6.size
        clear hb6
        have Q_t0 : ∀ pp : BW w6, pp.w.cell? ⟨w2.heap.size, 0, none⟩ = some (.int .u64 n0) := fun pp => keepc pp.b t0
        have Q_t1 : ∀ pp : BW w6, pp.w.cell? ⟨w2.heap.size, 1, none⟩ = some (.int .u64 b) := fun pp => keepc pp.b t1
        have Q_u0 : ∀ pp : BW w6, pp.w.cell? ⟨w2.heap.size + 1, 0, none⟩ = some (.int .u64 (shM n0 b x)) := fun pp => keepc pp.b u0
        have Q_u1 : ∀ pp : BW w6, pp.w.cell? ⟨w2.heap.size + 1, 1, none⟩ = some (.int .u64 (frB n0 b x)) := fun pp => keepc pp.b u1
        go_wp2
        refine wp_region_below (by kernel_rfl) (by kernel_rfl) ?_
        repeat (go_big_quiet_step (first | (with_reducible refine below_of (Of_any n0 b _ l0 lb (by omega) (by omega) _)) | (with_reducible refine below_of (Of_any (shM n0 b x) (frB n0 b x) _ lp lq (by omega) (by omega) _))))
        refine wpQuiet_nil ?_
        intro w7 hw'
        obtain ⟨pq_, hq_⟩ := hw'
        have hb7 := pq_.b
        rw [← hq_] at hb7
        clear hq_ pq_
        clear Q_t0 Q_t1 Q_u0 Q_u1
        replace t0 := keepc hb7 t0
        replace t1 := keepc hb7 t1
        replace u0 := keepc hb7 u0
        replace u1 := keepc hb7 u1
        replace hBw := bcall hBw hb7
        have hs7 := hb7.size
        clear hb7
        go_wp2
        go_roundw
        case rel => exact ⟨k + 1, by omega, by go_num, by rw [HT.out], bcall hbw hBw⟩
        case measure => simp [Go.RowKit.intOf]; omega
      · have dd := show tOf n0 b (k : Int) ≤ tOf (shM n0 b x) (frB n0 b x) (k : Int) from HD.out (k : Int)
        have d1 : ¬ tOf (shM n0 b x) (frB n0 b x) (k : Int) < tOf n0 b (k : Int) := by omega
        clear dd
        have d2 : (tOf (shM n0 b x) (frB n0 b x) (k : Int) != tOf n0 b (k : Int)) = false := by rw [bne_eq_false_iff_eq]; exact Decidable.byContradiction fun h => hkx ((HN.out (k : Int)).1 h).2
        have HT := hide (cD_off hkx)
        have hBw := Below.refl wr.heap.size wr
        have Q_t0 : ∀ pp : BW wr, pp.w.cell? ⟨w2.heap.size, 0, none⟩ = some (.int .u64 n0) := fun pp => keepc pp.b t0
        have Q_t1 : ∀ pp : BW wr, pp.w.cell? ⟨w2.heap.size, 1, none⟩ = some (.int .u64 b) := fun pp => keepc pp.b t1
        have Q_u0 : ∀ pp : BW wr, pp.w.cell? ⟨w2.heap.size + 1, 0, none⟩ = some (.int .u64 (shM n0 b x)) := fun pp => keepc pp.b u0
        have Q_u1 : ∀ pp : BW wr, pp.w.cell? ⟨w2.heap.size + 1, 1, none⟩ = some (.int .u64 (frB n0 b x)) := fun pp => keepc pp.b u1
        go_wp2
        refine wp_region_below (by kernel_rfl) (by kernel_rfl) ?_
        repeat (go_big_quiet_step (first | (with_reducible refine below_of (Of_any n0 b _ l0 lb (by omega) (by omega) _)) | (with_reducible refine below_of (Of_any (shM n0 b x) (frB n0 b x) _ lp lq (by omega) (by omega) _))))
        refine wpQuiet_nil ?_
        intro w6 hw'
        obtain ⟨pq_, hq_⟩ := hw'
        have hb6 := pq_.b
        rw [← hq_] at hb6
        clear hq_ pq_
        clear Q_t0 Q_t1 Q_u0 Q_u1
        replace t0 := keepc hb6 t0
        replace t1 := keepc hb6 t1
        replace u0 := keepc hb6 u0
        replace u1 := keepc hb6 u1
        replace hBw := bcall hBw hb6
        have hs6 := hb6.size
        clear hb6
        have Q_t0 : ∀ pp : BW w6, pp.w.cell? ⟨w2.heap.size, 0, none⟩ = some (.int .u64 n0) := fun pp => keepc pp.b t0
        have Q_t1 : ∀ pp : BW w6, pp.w.cell? ⟨w2.heap.size, 1, none⟩ = some (.int .u64 b) := fun pp => keepc pp.b t1
        have Q_u0 : ∀ pp : BW w6, pp.w.cell? ⟨w2.heap.size + 1, 0, none⟩ = some (.int .u64 (shM n0 b x)) := fun pp => keepc pp.b u0
        have Q_u1 : ∀ pp : BW w6, pp.w.cell? ⟨w2.heap.size + 1, 1, none⟩ = some (.int .u64 (frB n0 b x)) := fun pp => keepc pp.b u1
        go_wp2
        refine wp_region_below (by kernel_rfl) (by kernel_rfl) ?_
        repeat (go_big_quiet_step (first | (with_reducible refine below_of (Of_any n0 b _ l0 lb (by omega) (by omega) _)) | (with_reducible refine below_of (Of_any (shM n0 b x) (frB n0 b x) _ lp lq (by omega) (by omega) _))))
        refine wpQuiet_nil ?_
        intro w7 hw'
        obtain ⟨pq_, hq_⟩ := hw'
        have hb7 := pq_.b
        rw [← hq_] at hb7
        clear hq_ pq_
        clear Q_t0 Q_t1 Q_u0 Q_u1
        replace t0 := keepc hb7 t0
        replace t1 := keepc hb7 t1
        replace u0 := keepc hb7 u0
        replace u1 := keepc hb7 u1
        replace hBw := bcall hBw hb7
        have hs7 := hb7.size
        clear hb7
        go_wp2
        go_roundw
        case rel => exact ⟨k + 1, by omega, by go_num, by rw [HT.out], bcall hbw hBw⟩
        case measure => simp [Go.RowKit.intOf]; omega
    · have q2 : ¬ (k : Int) ≤ 65 := by omega
      have ek : k = 66 := by omega
      subst ek
      rw [show cD true x 66 = 1 from cD_end x1]
      have hg := HG.out
      rw [Bool.and_eq_true, Bool.and_eq_true, decide_eq_true_eq, decide_eq_true_eq, decide_eq_true_eq] at hg
      obtain ⟨r1, r2, hv⟩ := hg
      have HV_ := hide hv.symm
      clear hv
      go_wp2_with fail
      (with_reducible refine (Of_c n0 b x _ _ 0 l0 lb (by omega) (by omega) rfl rfl HV_.out _).mono ?_)
      rintro e w6 ⟨rfl, hb6⟩
      replace t0 := keepc hb6 t0
      replace t1 := keepc hb6 t1
      replace u0 := keepc hb6 u0
      replace u1 := keepc hb6 u1
      replace hB := bcall hB hb6
      have hs6 := hb6.size
      clear hb6
      go_wp2_with fail
      (with_reducible refine (Right_c (shM n0 b x) (frB n0 b x) 64 _ _ true lp lq (by omega) (by omega) rfl rfl HR.out _).mono ?_)
      rintro e w7 ⟨rfl, hb7⟩
      replace t0 := keepc hb7 t0
      replace t1 := keepc hb7 t1
      replace u0 := keepc hb7 u0
      replace u1 := keepc hb7 u1
      replace hB := bcall hB hb7
      have hs7 := hb7.size
      clear hb7
      go_wp2
      go_ret
      exact ⟨rfl, hB⟩
theorem walk (n0 n1 : Nat) (l0 : n0 < 18446744073709551616) (l1 : n1 < 18446744073709551616) (a2 : Int) (ha2 : 0 ≤ a2 ∧ a2 ≤ 255) (a3 : Int) (ha3 : 0 ≤ a3 ∧ a3 ≤ 255) (w : World) (hE : EnvL w) : Calls Tryd.prog 4 #[.int .u64 n0, .int .u64 n1, .int .u8 a2, .int .u8 a3] w fun e w' => e = .returned (.bool true) ∧ Below w.heap.size w w' := by
  obtain ⟨x, hx⟩ : ∃ x, a2.tmod 66 = x := ⟨_, rfl⟩
  have hx0 : 0 ≤ x ∧ x ≤ 65 := by rw [Int.tmod_eq_emod_of_nonneg ha2.1] at hx; omega
  obtain ⟨x0, x1⟩ := hx0
  obtain ⟨z0, z1⟩ := ha2
  have lb : n0 &&& n1 < 18446744073709551616 := and_lt' n1 l0
  have hu := hide (under_and n0 n1 l0)
  obtain ⟨b, hbb⟩ : ∃ b, n0 &&& n1 = b := ⟨_, rfl⟩
  rw [hbb] at lb hu
  have HBB := hide hbb
  clear hbb
  rcases (show a3 % 3 = 0 ∨ a3 % 3 = 1 ∨ a3 % 3 = 2 by omega) with hk3 | hk3 | hk3
  · have hk : a3.tmod 3 = 0 := by rw [Int.tmod_eq_emod_of_nonneg ha3.1]; exact hk3
    clear hk3
    obtain ⟨z2, z3⟩ := ha3
    cases hF : tFree n0 b x
    · exact walk1n n0 n1 b l0 l1 lb HBB hu a2 a3 x hx x0 x1 z0 z1 z2 z3 hk hF w hE
    · exact walk1y n0 n1 b l0 l1 lb HBB hu a2 a3 x hx x0 x1 z0 z1 z2 z3 hk hF w hE
  · have hk : a3.tmod 3 = 1 := by rw [Int.tmod_eq_emod_of_nonneg ha3.1]; exact hk3
    clear hk3
    obtain ⟨z2, z3⟩ := ha3
    cases hF : tGrey n0 b x
    · exact walk2n n0 n1 b l0 l1 lb HBB hu a2 a3 x hx x0 x1 z0 z1 z2 z3 hk hF w hE
    · exact walk2y n0 n1 b l0 l1 lb HBB hu a2 a3 x hx x0 x1 z0 z1 z2 z3 hk hF w hE
  · have hk : a3.tmod 3 = 2 := by rw [Int.tmod_eq_emod_of_nonneg ha3.1]; exact hk3
    clear hk3
    obtain ⟨z2, z3⟩ := ha3
    cases hF : tFree n0 b x
    · exact walk3n n0 n1 b l0 l1 lb HBB hu a2 a3 x hx x0 x1 z0 z1 z2 z3 hk hF w hE
    · exact walk3y n0 n1 b l0 l1 lb HBB hu a2 a3 x hx x0 x1 z0 z1 z2 z3 hk hF w hE

set_option maxRecDepth 100000 in
theorem lifted (os : Os) (started : os.Started) (H : Type) (enc : TypeId × Value → H) :
    ReturnsInHanded {} Tryd.checked os 4 .any (fun w args => (Rows.tintDarkerSpec.pre enc Tryd.prog Tryd.f4 Rows.tintDarkerRow.domain false w args ∧ laidMetH Tryd.prog Rows.tintDarkerRow.laid w) ∧ sizedMet enc Tryd.prog Tryd.f4 (OpenSpec.ofChange Rows.tintDarkerSpec) false w args) (Rows.tintDarkerSpec.post enc Tryd.prog Tryd.f4 false true false false) := by
  refine handed_and_shaped (C := Tryd.checked) (X := fun w _ => laidMetH Tryd.prog Rows.tintDarkerRow.laid w) (fun _ _ _ hh h => h.of_heap hh) ownL started (by kernel_rfl) Tryd.func4
    (ChangeSpec.witness_shaped (enc := enc) (C := Tryd.checked) (os := os) (X := fun w _ => laidMetH Tryd.prog Rows.tintDarkerRow.laid w) false (World.laidAll Tryd.prog os Rows.tintDarkerRow.laid) #[.int .u64 0, .int .u64 0, .int .u8 0, .int .u8 0] 8 (World.laidAll_os _ _ _)
      (World.shaped_of_ZipB (by kernel_rfl) (by kernel_rfl)) (by kernel_rfl) (by kernel_rfl) (by kernel_rfl)
      (by rw [MakeChecks.laidMetH_plain _ _ _ (by kernel_rfl)]; exact laidMet_laidAll _ (by kernel_rfl) (by kernel_rfl))) ?_
  intro W base args ds gs before hval0 hW hsz0 hL hsh
  have hval : ∀ (j : Nat) t v, Tryd.f4.params[j]? = some t → args[j]? = some v → Value.okWide Tryd.prog W .any base t v := hval0
  have hW' := hW
  obtain ⟨p, q, hA0, hV, rfl, hfz, hnd⟩ := hW
  have hA : DataW.TrodAll enc Tryd.prog W 0 (fun _ => true) true Tryd.f4.params.toList args.toList ds p := hA0
  rw [Tryd.params4] at hA hval
  obtain ⟨v0, vs0, d0, ds0, p0, q0, hargs, rfl, rfl, h0, r0⟩ := trodAll_cons hA
  obtain ⟨v1, vs1, d1, ds1, p1, q1, rfl, rfl, rfl, h1, r1⟩ := trodAll_cons r0
  obtain ⟨v2, vs2, d2, ds2, p2, q2, rfl, rfl, rfl, h2, r2⟩ := trodAll_cons r1
  obtain ⟨v3, vs3, d3, ds3, p3, q3, rfl, rfl, rfl, h3, r3⟩ := trodAll_cons r2
  obtain ⟨rfl, rfl, rfl⟩ := trodAll_nil r3
  obtain rfl : args = #[v0, v1, v2, v3] := by cases args; simp_all
  obtain ⟨rfl, rfl⟩ := trodVars_none hV
  obtain ⟨a0, rfl, rfl, rfl, w0⟩ := open_int Tryd.underlying23 (hval 0 23 v0 rfl rfl) h0
  have hx0 : 0 ≤ a0 ∧ a0 ≤ 18446744073709551615 := by simpa [Lit.wf, IntKind.min, IntKind.max, IntKind.signed, IntKind.bits] using w0
  obtain ⟨n0, rfl⟩ : ∃ n : Nat, a0 = n := ⟨a0.toNat, by omega⟩
  obtain ⟨a1, rfl, rfl, rfl, w1⟩ := open_int Tryd.underlying23 (hval 1 23 v1 rfl rfl) h1
  have hx1 : 0 ≤ a1 ∧ a1 ≤ 18446744073709551615 := by simpa [Lit.wf, IntKind.min, IntKind.max, IntKind.signed, IntKind.bits] using w1
  obtain ⟨n1, rfl⟩ : ∃ n : Nat, a1 = n := ⟨a1.toNat, by omega⟩
  obtain ⟨a2, rfl, rfl, rfl, w2⟩ := open_int Tryd.underlying5 (hval 2 5 v2 rfl rfl) h2
  have hx2 : 0 ≤ a2 ∧ a2 ≤ 255 := by simpa [Lit.wf, IntKind.min, IntKind.max, IntKind.signed, IntKind.bits] using w2
  obtain ⟨a3, rfl, rfl, rfl, w3⟩ := open_int Tryd.underlying5 (hval 3 5 v3 rfl rfl) h3
  have hx3 : 0 ≤ a3 ∧ a3 ≤ 255 := by simpa [Lit.wf, IntKind.min, IntKind.max, IntKind.signed, IntKind.bits] using w3
  have hE := envL_of_laid hL
  refine (walk n0 n1 (by omega) (by omega) a2 hx2 a3 hx3 W hE).mono fun e W' ⟨he, hg⟩ => ?_
  subst he
  exact ⟨_, rfl, law_post laidOutL (by kernel_rfl) rfl Tryd.underlying4 rfl ⟨rfl, rfl, rfl⟩ hW' hg⟩
theorem row_holds : Rows.TintDarkerSaid :=
  OpenClaim.holds_of_wide 4 Tryd.f4 rfl rfl rfl rfl rfl rfl rfl ⟨rfl, rfl, rfl, rfl, rfl⟩ rfl rfl rfl rfl rfl (by kernel_rfl) Tryd.func4 (by kernel_rfl)
    (of_decide_eq_true (by kernel_rfl)) (by unfold Func.isWrapper; first | (rw [if_pos (by decide +kernel)]; kernel_rfl) | (rw [if_neg (by decide +kernel)]; exact ⟨rfl, rfl⟩))
    (fun os started H enc _ => lifted os started H enc)

/-- THE STATEMENT -/
theorem proved : Rows.TintDarkerCardSaid :=
  Claim7.holds_tied_plain_at .later [] Rows.tintDarkerCard.laidKinds true Rows.tintDarkerCard.stood.harness Rows.tintDarkerCard.stood.looks
    row_holds (fun _ h => by cases h) (by kernel_rfl) (fun _ h => by cases h) tintDarker_row_tie rfl ⟨rfl, rfl⟩ (by kernel_rfl) rfl
    (fun f fn hf hfn => by
      obtain rfl : f = 4 := Option.some.inj ((show Tryd.prog.funcNamed Rows.tintDarkerRow.func = some 4 by kernel_rfl).symm.trans hf) |>.symm
      obtain rfl : fn = Tryd.f4 := (Option.some.inj (Tryd.func4.symm.trans hfn)).symm
      exact ⟨by kernel_rfl, fun j t ht => by
        rw [Tryd.params4] at ht
        have hm : t ∈ [23, 23, 5, 5] := by simpa using Array.mem_of_getElem? ht
        have hall : ([23, 23, 5, 5].all fun u => !Tryd.prog.wantsStandIn u) = true := by kernel_rfl
        exact (show Tryd.prog.wantsStandIn t = false by simpa using List.all_eq_true.1 hall t hm)⟩)
    (by kernel_rfl)
end Go.Proofs.YtpffknlbffnafaaDoor.lawTintDarker
