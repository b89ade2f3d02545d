/- MemOne: for any cells, a deed: a deed turns one cell at most, that one; the cells that were there are as they were; what was loaded is what was there. No condition. -/
import Derived.Test.YtncflfpmdcjmcaaMemUse2
namespace Go.Proofs.Ytncflfpmdcjmcaa.lawMemOne
open Go.RowKit Go.WideShapes Go.ChangeShapes Go.ChangeAt Go.Proofs Go.Proofs.Ytncflfpmdcjmcaa

set_option maxRecDepth 100000 in
set_option maxHeartbeats 8000000 in
theorem w_neg (v : Value) (m : List Int) (k t a b : Int) (w : World) (h : Cells w v m) (hbig : m.length * 8 ≤ 140737488351232) (ht : t < 0) : Calls Try.prog 4 #[v, ov k t a b] w fun e w' => e = .returned (.bool true) ∧ Below w.heap.size w w' := by
  have GM := hide h
  have hB : Below w.heap.size w w := Below.refl _ _
  obtain ⟨A, c, rfl, hc1, hc2, -⟩ := h
  unfold maxLen at hc2
  obtain ⟨i0, hi, hz0, hz1, hz2⟩ := info_parts infoU
  have HF := hide (at_off (m := m) (o := ⟨k, t, a, b⟩) (by simp only; omega))
  have HM := hide HF.out.2.2
  have HV := hide HF.out.1
  have HD := hide HF.out.2.1
  obtain ⟨wp0, ep0, hbp0, hsp0, u00, u01, u02, u03⟩ := box4 w (.int .i64 k) (.int .i64 t) (.int .u64 a) (.int .u64 b) 26
  have HEP0 := hide ep0
  clear ep0
  have GM := hide (GM.out.below hbp0)
  have hB := bcall hB hbp0
  go_enter Try.func4, Try.ntmps4
  go_wp2_with fail
  rw [HEP0.out]
  (with_reducible refine (examples_any _).mono ?_)
  rintro e w0_ ⟨rfl, hb0_⟩
  have u00 := keepc hb0_ u00
  have u01 := keepc hb0_ u01
  have u02 := keepc hb0_ u02
  have u03 := keepc hb0_ u03
  have GM := hide (GM.out.below hb0_)
  have hB := bcall hB hb0_
  go_wp2_with (at_builtin; refine wpList_append_sl _ rfl _ _ 23 rfl w0_.heap.size 24 i0 (.int .u64 0) 1 8 Try.underlying23 hi hz0 hz1 hz2 rfl (by decide) _ _ _ rfl (World.ownsRow_nil _ _ _ _) _ m rfl GM.out uc_len (fun _ u hu => by simp [uc] at hu; subst hu; rfl) (by unfold maxLen; omega) (by omega) (by simp) ?_)
  intro v2 wa hown hba
  have hown : OwnC w0_.heap.size wa v2 m := by simpa using hown
  have G0 := hide hown.cells
  obtain ⟨A2, c2, rfl, hd1, hd2⟩ := own_form hown
  clear hown
  have u00 := keepc hba u00
  have u01 := keepc hba u01
  have u02 := keepc hba u02
  have u03 := keepc hba u03
  have GM := hide (GM.out.below hba)
  have hB := bcall hB hba
  go_wp2_with fail
  (with_reducible refine (Do_c _ m k t a b _ GM.out (by omega) m 0 false (HM.out) (HV.out) (HD.out) m.length (rfl)).mono ?_)
  rintro e w1_ ⟨A1_, c1_, rfl, q1_, G1, hb1_⟩
  have u00 := keepc hb1_ u00
  have u01 := keepc hb1_ u01
  have u02 := keepc hb1_ u02
  have u03 := keepc hb1_ u03
  have GM := hide (GM.out.below hb1_)
  have G0 := hide (G0.out.below hb1_)
  have hB := bcall hB hb1_
  have G1 := hide G1
  go_wp2_with fail
  (with_reducible refine (Same_any _ _ m m _ GM.out G0.out).mono ?_)
  rintro e w2_ ⟨rfl, hb2_⟩
  have u00 := keepc hb2_ u00
  have u01 := keepc hb2_ u01
  have u02 := keepc hb2_ u02
  have u03 := keepc hb2_ u03
  have GM := hide (GM.out.below hb2_)
  have G0 := hide (G0.out.below hb2_)
  have G1 := hide (G1.out.below hb2_)
  have hB := bcall hB hb2_
  rw [decide_eq_true rfl]
  go_wp2
  go_loopw [10] (fun i wr => ∃ x : Nat, x ≤ m.length ∧ i = .int .i64 x ∧ Below w2_.heap.size w2_ wr) (fun i _ => m.length - (Go.RowKit.intOf i).toNat)
  case atStart => exact ⟨0, Nat.zero_le _, rfl, Below.refl _ _⟩
  case round =>
    obtain ⟨x, hx, rfl, hbw⟩ := hrel
    have hbw0 := hbw
    have u00 := keepc hbw u00
    have u01 := keepc hbw u01
    have u02 := keepc hbw u02
    have u03 := keepc hbw u03
    have GM := hide (GM.out.below hbw)
    have G0 := hide (G0.out.below hbw)
    have G1 := hide (G1.out.below hbw)
    have hB := bcall hB hbw
    by_cases hlt : x < m.length
    · by_cases hxt : (x : Int) = t
      · have q : ((x : Int) != t) = false := by simp [hxt]
        clear hxt
        go_wp2
        go_quiet (fail)
        go_wp2
        go_roundw
        case rel => exact ⟨x + 1, by omega, by go_num, bdrewN hbw0 _⟩
        case measure => simp [Go.RowKit.intOf]; omega
      · have q : ((x : Int) != t) = true := by simp [hxt]
        have hlN1 : x < m.length := hlt
        obtain ⟨b1, o1, rfl, -, e1⟩ := cells_at G1.out hlN1
        obtain ⟨b2, o2, rfl, -, e2⟩ := cells_at GM.out hlt
        generalize m[x] = z at *
        have q2 : (z != z) = false := by simp
        clear hxt
        go_wp2
        go_quiet (fail)
        go_wp2
        go_roundw
        case rel => exact ⟨x + 1, by omega, by go_num, bdrewN hbw0 _⟩
        case measure => simp [Go.RowKit.intOf]; omega
    · have hxe : x = m.length := by omega
      clear hlt
      go_wp2_with fail
      (with_reducible refine (Same_any _ _ m m _ G1.out GM.out).mono ?_)
      rintro e w3_ ⟨rfl, hb3_⟩
      have u00 := keepc hb3_ u00
      have u01 := keepc hb3_ u01
      have u02 := keepc hb3_ u02
      have u03 := keepc hb3_ u03
      have GM := hide (GM.out.below hb3_)
      have G0 := hide (G0.out.below hb3_)
      have G1 := hide (G1.out.below hb3_)
      have hB := bcall hB hb3_
      rw [decide_eq_true rfl]
      go_wp2
      go_ret
      exact ⟨rfl, hB⟩
set_option maxRecDepth 100000 in
set_option maxHeartbeats 8000000 in
theorem w_far (v : Value) (m : List Int) (k t a b : Int) (w : World) (h : Cells w v m) (hbig : m.length * 8 ≤ 140737488351232) (ht : (m.length : Int) ≤ t) (ht2 : 0 ≤ t) : Calls Try.prog 4 #[v, ov k t a b] w fun e w' => e = .returned (.bool true) ∧ Below w.heap.size w w' := by
  have GM := hide h
  have hB : Below w.heap.size w w := Below.refl _ _
  obtain ⟨A, c, rfl, hc1, hc2, -⟩ := h
  unfold maxLen at hc2
  obtain ⟨i0, hi, hz0, hz1, hz2⟩ := info_parts infoU
  have HF := hide (at_off (m := m) (o := ⟨k, t, a, b⟩) (by simp only; omega))
  have HM := hide HF.out.2.2
  have HV := hide HF.out.1
  have HD := hide HF.out.2.1
  obtain ⟨wp0, ep0, hbp0, hsp0, u00, u01, u02, u03⟩ := box4 w (.int .i64 k) (.int .i64 t) (.int .u64 a) (.int .u64 b) 26
  have HEP0 := hide ep0
  clear ep0
  have GM := hide (GM.out.below hbp0)
  have hB := bcall hB hbp0
  go_enter Try.func4, Try.ntmps4
  go_wp2_with fail
  rw [HEP0.out]
  (with_reducible refine (examples_any _).mono ?_)
  rintro e w0_ ⟨rfl, hb0_⟩
  have u00 := keepc hb0_ u00
  have u01 := keepc hb0_ u01
  have u02 := keepc hb0_ u02
  have u03 := keepc hb0_ u03
  have GM := hide (GM.out.below hb0_)
  have hB := bcall hB hb0_
  go_wp2_with (at_builtin; refine wpList_append_sl _ rfl _ _ 23 rfl w0_.heap.size 24 i0 (.int .u64 0) 1 8 Try.underlying23 hi hz0 hz1 hz2 rfl (by decide) _ _ _ rfl (World.ownsRow_nil _ _ _ _) _ m rfl GM.out uc_len (fun _ u hu => by simp [uc] at hu; subst hu; rfl) (by unfold maxLen; omega) (by omega) (by simp) ?_)
  intro v2 wa hown hba
  have hown : OwnC w0_.heap.size wa v2 m := by simpa using hown
  have G0 := hide hown.cells
  obtain ⟨A2, c2, rfl, hd1, hd2⟩ := own_form hown
  clear hown
  have u00 := keepc hba u00
  have u01 := keepc hba u01
  have u02 := keepc hba u02
  have u03 := keepc hba u03
  have GM := hide (GM.out.below hba)
  have hB := bcall hB hba
  go_wp2_with fail
  (with_reducible refine (Do_c _ m k t a b _ GM.out (by omega) m 0 false (HM.out) (HV.out) (HD.out) m.length (rfl)).mono ?_)
  rintro e w1_ ⟨A1_, c1_, rfl, q1_, G1, hb1_⟩
  have u00 := keepc hb1_ u00
  have u01 := keepc hb1_ u01
  have u02 := keepc hb1_ u02
  have u03 := keepc hb1_ u03
  have GM := hide (GM.out.below hb1_)
  have G0 := hide (G0.out.below hb1_)
  have hB := bcall hB hb1_
  have G1 := hide G1
  go_wp2_with fail
  (with_reducible refine (Same_any _ _ m m _ GM.out G0.out).mono ?_)
  rintro e w2_ ⟨rfl, hb2_⟩
  have u00 := keepc hb2_ u00
  have u01 := keepc hb2_ u01
  have u02 := keepc hb2_ u02
  have u03 := keepc hb2_ u03
  have GM := hide (GM.out.below hb2_)
  have G0 := hide (G0.out.below hb2_)
  have G1 := hide (G1.out.below hb2_)
  have hB := bcall hB hb2_
  rw [decide_eq_true rfl]
  go_wp2
  go_loopw [10] (fun i wr => ∃ x : Nat, x ≤ m.length ∧ i = .int .i64 x ∧ Below w2_.heap.size w2_ wr) (fun i _ => m.length - (Go.RowKit.intOf i).toNat)
  case atStart => exact ⟨0, Nat.zero_le _, rfl, Below.refl _ _⟩
  case round =>
    obtain ⟨x, hx, rfl, hbw⟩ := hrel
    have hbw0 := hbw
    have u00 := keepc hbw u00
    have u01 := keepc hbw u01
    have u02 := keepc hbw u02
    have u03 := keepc hbw u03
    have GM := hide (GM.out.below hbw)
    have G0 := hide (G0.out.below hbw)
    have G1 := hide (G1.out.below hbw)
    have hB := bcall hB hbw
    by_cases hlt : x < m.length
    · by_cases hxt : (x : Int) = t
      · have q : ((x : Int) != t) = false := by simp [hxt]
        clear hxt
        go_wp2
        go_quiet (fail)
        go_wp2
        go_roundw
        case rel => exact ⟨x + 1, by omega, by go_num, bdrewN hbw0 _⟩
        case measure => simp [Go.RowKit.intOf]; omega
      · have q : ((x : Int) != t) = true := by simp [hxt]
        have hlN1 : x < m.length := hlt
        obtain ⟨b1, o1, rfl, -, e1⟩ := cells_at G1.out hlN1
        obtain ⟨b2, o2, rfl, -, e2⟩ := cells_at GM.out hlt
        generalize m[x] = z at *
        have q2 : (z != z) = false := by simp
        clear hxt
        go_wp2
        go_quiet (fail)
        go_wp2
        go_roundw
        case rel => exact ⟨x + 1, by omega, by go_num, bdrewN hbw0 _⟩
        case measure => simp [Go.RowKit.intOf]; omega
    · have hxe : x = m.length := by omega
      clear hlt
      go_wp2_with fail
      (with_reducible refine (Same_any _ _ m m _ G1.out GM.out).mono ?_)
      rintro e w3_ ⟨rfl, hb3_⟩
      have u00 := keepc hb3_ u00
      have u01 := keepc hb3_ u01
      have u02 := keepc hb3_ u02
      have u03 := keepc hb3_ u03
      have GM := hide (GM.out.below hb3_)
      have G0 := hide (G0.out.below hb3_)
      have G1 := hide (G1.out.below hb3_)
      have hB := bcall hB hb3_
      rw [decide_eq_true rfl]
      go_wp2
      go_ret
      exact ⟨rfl, hB⟩
set_option maxRecDepth 100000 in
set_option maxHeartbeats 8000000 in
theorem w_low (v : Value) (m : List Int) (k t a b : Int) (w : World) (h : Cells w v m) (hbig : m.length * 8 ≤ 140737488351232) (ht : 0 ≤ t ∧ t < (m.length : Int)) (hk : k < 1) : Calls Try.prog 4 #[v, ov k t a b] w fun e w' => e = .returned (.bool true) ∧ Below w.heap.size w w' := by
  have GM := hide h
  have hB : Below w.heap.size w w := Below.refl _ _
  obtain ⟨A, c, rfl, hc1, hc2, -⟩ := h
  unfold maxLen at hc2
  obtain ⟨i0, hi, hz0, hz1, hz2⟩ := info_parts infoU
  have HF := hide (at_off (m := m) (o := ⟨k, t, a, b⟩) (by simp only; omega))
  have HM := hide HF.out.2.2
  have HV := hide HF.out.1
  have HD := hide HF.out.2.1
  obtain ⟨wp0, ep0, hbp0, hsp0, u00, u01, u02, u03⟩ := box4 w (.int .i64 k) (.int .i64 t) (.int .u64 a) (.int .u64 b) 26
  have HEP0 := hide ep0
  clear ep0
  have GM := hide (GM.out.below hbp0)
  have hB := bcall hB hbp0
  go_enter Try.func4, Try.ntmps4
  go_wp2_with fail
  rw [HEP0.out]
  (with_reducible refine (examples_any _).mono ?_)
  rintro e w0_ ⟨rfl, hb0_⟩
  have u00 := keepc hb0_ u00
  have u01 := keepc hb0_ u01
  have u02 := keepc hb0_ u02
  have u03 := keepc hb0_ u03
  have GM := hide (GM.out.below hb0_)
  have hB := bcall hB hb0_
  go_wp2_with (at_builtin; refine wpList_append_sl _ rfl _ _ 23 rfl w0_.heap.size 24 i0 (.int .u64 0) 1 8 Try.underlying23 hi hz0 hz1 hz2 rfl (by decide) _ _ _ rfl (World.ownsRow_nil _ _ _ _) _ m rfl GM.out uc_len (fun _ u hu => by simp [uc] at hu; subst hu; rfl) (by unfold maxLen; omega) (by omega) (by simp) ?_)
  intro v2 wa hown hba
  have hown : OwnC w0_.heap.size wa v2 m := by simpa using hown
  have G0 := hide hown.cells
  obtain ⟨A2, c2, rfl, hd1, hd2⟩ := own_form hown
  clear hown
  have u00 := keepc hba u00
  have u01 := keepc hba u01
  have u02 := keepc hba u02
  have u03 := keepc hba u03
  have GM := hide (GM.out.below hba)
  have hB := bcall hB hba
  go_wp2_with fail
  (with_reducible refine (Do_c _ m k t a b _ GM.out (by omega) m 0 false (HM.out) (HV.out) (HD.out) m.length (rfl)).mono ?_)
  rintro e w1_ ⟨A1_, c1_, rfl, q1_, G1, hb1_⟩
  have u00 := keepc hb1_ u00
  have u01 := keepc hb1_ u01
  have u02 := keepc hb1_ u02
  have u03 := keepc hb1_ u03
  have GM := hide (GM.out.below hb1_)
  have G0 := hide (G0.out.below hb1_)
  have hB := bcall hB hb1_
  have G1 := hide G1
  go_wp2_with fail
  (with_reducible refine (Same_any _ _ m m _ GM.out G0.out).mono ?_)
  rintro e w2_ ⟨rfl, hb2_⟩
  have u00 := keepc hb2_ u00
  have u01 := keepc hb2_ u01
  have u02 := keepc hb2_ u02
  have u03 := keepc hb2_ u03
  have GM := hide (GM.out.below hb2_)
  have G0 := hide (G0.out.below hb2_)
  have G1 := hide (G1.out.below hb2_)
  have hB := bcall hB hb2_
  rw [decide_eq_true rfl]
  go_wp2
  go_loopw [10] (fun i wr => ∃ x : Nat, x ≤ m.length ∧ i = .int .i64 x ∧ Below w2_.heap.size w2_ wr) (fun i _ => m.length - (Go.RowKit.intOf i).toNat)
  case atStart => exact ⟨0, Nat.zero_le _, rfl, Below.refl _ _⟩
  case round =>
    obtain ⟨x, hx, rfl, hbw⟩ := hrel
    have hbw0 := hbw
    have u00 := keepc hbw u00
    have u01 := keepc hbw u01
    have u02 := keepc hbw u02
    have u03 := keepc hbw u03
    have GM := hide (GM.out.below hbw)
    have G0 := hide (G0.out.below hbw)
    have G1 := hide (G1.out.below hbw)
    have hB := bcall hB hbw
    by_cases hlt : x < m.length
    · by_cases hxt : (x : Int) = t
      · have q : ((x : Int) != t) = false := by simp [hxt]
        clear hxt
        go_wp2
        go_quiet (fail)
        go_wp2
        go_roundw
        case rel => exact ⟨x + 1, by omega, by go_num, bdrewN hbw0 _⟩
        case measure => simp [Go.RowKit.intOf]; omega
      · have q : ((x : Int) != t) = true := by simp [hxt]
        have hlN1 : x < m.length := hlt
        obtain ⟨b1, o1, rfl, -, e1⟩ := cells_at G1.out hlN1
        obtain ⟨b2, o2, rfl, -, e2⟩ := cells_at GM.out hlt
        generalize m[x] = z at *
        have q2 : (z != z) = false := by simp
        clear hxt
        go_wp2
        go_quiet (fail)
        go_wp2
        go_roundw
        case rel => exact ⟨x + 1, by omega, by go_num, bdrewN hbw0 _⟩
        case measure => simp [Go.RowKit.intOf]; omega
    · have hxe : x = m.length := by omega
      clear hlt
      go_wp2_with fail
      (with_reducible refine (Same_any _ _ m m _ G1.out GM.out).mono ?_)
      rintro e w3_ ⟨rfl, hb3_⟩
      have u00 := keepc hb3_ u00
      have u01 := keepc hb3_ u01
      have u02 := keepc hb3_ u02
      have u03 := keepc hb3_ u03
      have GM := hide (GM.out.below hb3_)
      have G0 := hide (G0.out.below hb3_)
      have G1 := hide (G1.out.below hb3_)
      have hB := bcall hB hb3_
      rw [decide_eq_true rfl]
      go_wp2
      go_ret
      exact ⟨rfl, hB⟩
set_option maxRecDepth 100000 in
set_option maxHeartbeats 8000000 in
theorem w_high (v : Value) (m : List Int) (k t a b : Int) (w : World) (h : Cells w v m) (hbig : m.length * 8 ≤ 140737488351232) (ht : 0 ≤ t ∧ t < (m.length : Int)) (hk : 4 < k) : Calls Try.prog 4 #[v, ov k t a b] w fun e w' => e = .returned (.bool true) ∧ Below w.heap.size w w' := by
  have GM := hide h
  have hB : Below w.heap.size w w := Below.refl _ _
  obtain ⟨A, c, rfl, hc1, hc2, -⟩ := h
  unfold maxLen at hc2
  obtain ⟨i0, hi, hz0, hz1, hz2⟩ := info_parts infoU
  have HF := hide (at_off (m := m) (o := ⟨k, t, a, b⟩) (by simp only; omega))
  have HM := hide HF.out.2.2
  have HV := hide HF.out.1
  have HD := hide HF.out.2.1
  have hk4 : decide (k ≤ 4) = false := decide_eq_false (by omega)
  obtain ⟨wp0, ep0, hbp0, hsp0, u00, u01, u02, u03⟩ := box4 w (.int .i64 k) (.int .i64 t) (.int .u64 a) (.int .u64 b) 26
  have HEP0 := hide ep0
  clear ep0
  have GM := hide (GM.out.below hbp0)
  have hB := bcall hB hbp0
  go_enter Try.func4, Try.ntmps4
  go_wp2_with fail
  rw [HEP0.out]
  (with_reducible refine (examples_any _).mono ?_)
  rintro e w0_ ⟨rfl, hb0_⟩
  have u00 := keepc hb0_ u00
  have u01 := keepc hb0_ u01
  have u02 := keepc hb0_ u02
  have u03 := keepc hb0_ u03
  have GM := hide (GM.out.below hb0_)
  have hB := bcall hB hb0_
  go_wp2_with (at_builtin; refine wpList_append_sl _ rfl _ _ 23 rfl w0_.heap.size 24 i0 (.int .u64 0) 1 8 Try.underlying23 hi hz0 hz1 hz2 rfl (by decide) _ _ _ rfl (World.ownsRow_nil _ _ _ _) _ m rfl GM.out uc_len (fun _ u hu => by simp [uc] at hu; subst hu; rfl) (by unfold maxLen; omega) (by omega) (by simp) ?_)
  intro v2 wa hown hba
  have hown : OwnC w0_.heap.size wa v2 m := by simpa using hown
  have G0 := hide hown.cells
  obtain ⟨A2, c2, rfl, hd1, hd2⟩ := own_form hown
  clear hown
  have u00 := keepc hba u00
  have u01 := keepc hba u01
  have u02 := keepc hba u02
  have u03 := keepc hba u03
  have GM := hide (GM.out.below hba)
  have hB := bcall hB hba
  go_wp2_with fail
  (with_reducible refine (Do_c _ m k t a b _ GM.out (by omega) m 0 false (HM.out) (HV.out) (HD.out) m.length (rfl)).mono ?_)
  rintro e w1_ ⟨A1_, c1_, rfl, q1_, G1, hb1_⟩
  have u00 := keepc hb1_ u00
  have u01 := keepc hb1_ u01
  have u02 := keepc hb1_ u02
  have u03 := keepc hb1_ u03
  have GM := hide (GM.out.below hb1_)
  have G0 := hide (G0.out.below hb1_)
  have hB := bcall hB hb1_
  have G1 := hide G1
  go_wp2_with fail
  (with_reducible refine (Same_any _ _ m m _ GM.out G0.out).mono ?_)
  rintro e w2_ ⟨rfl, hb2_⟩
  have u00 := keepc hb2_ u00
  have u01 := keepc hb2_ u01
  have u02 := keepc hb2_ u02
  have u03 := keepc hb2_ u03
  have GM := hide (GM.out.below hb2_)
  have G0 := hide (G0.out.below hb2_)
  have G1 := hide (G1.out.below hb2_)
  have hB := bcall hB hb2_
  rw [decide_eq_true rfl]
  go_wp2
  go_loopw [10] (fun i wr => ∃ x : Nat, x ≤ m.length ∧ i = .int .i64 x ∧ Below w2_.heap.size w2_ wr) (fun i _ => m.length - (Go.RowKit.intOf i).toNat)
  case atStart => exact ⟨0, Nat.zero_le _, rfl, Below.refl _ _⟩
  case round =>
    obtain ⟨x, hx, rfl, hbw⟩ := hrel
    have hbw0 := hbw
    have u00 := keepc hbw u00
    have u01 := keepc hbw u01
    have u02 := keepc hbw u02
    have u03 := keepc hbw u03
    have GM := hide (GM.out.below hbw)
    have G0 := hide (G0.out.below hbw)
    have G1 := hide (G1.out.below hbw)
    have hB := bcall hB hbw
    by_cases hlt : x < m.length
    · by_cases hxt : (x : Int) = t
      · have q : ((x : Int) != t) = false := by simp [hxt]
        clear hxt
        go_wp2
        go_quiet (fail)
        go_wp2
        go_roundw
        case rel => exact ⟨x + 1, by omega, by go_num, bdrewN hbw0 _⟩
        case measure => simp [Go.RowKit.intOf]; omega
      · have q : ((x : Int) != t) = true := by simp [hxt]
        have hlN1 : x < m.length := hlt
        obtain ⟨b1, o1, rfl, -, e1⟩ := cells_at G1.out hlN1
        obtain ⟨b2, o2, rfl, -, e2⟩ := cells_at GM.out hlt
        generalize m[x] = z at *
        have q2 : (z != z) = false := by simp
        clear hxt
        go_wp2
        go_quiet (fail)
        go_wp2
        go_roundw
        case rel => exact ⟨x + 1, by omega, by go_num, bdrewN hbw0 _⟩
        case measure => simp [Go.RowKit.intOf]; omega
    · have hxe : x = m.length := by omega
      clear hlt
      go_wp2_with fail
      (with_reducible refine (Same_any _ _ m m _ G1.out GM.out).mono ?_)
      rintro e w3_ ⟨rfl, hb3_⟩
      have u00 := keepc hb3_ u00
      have u01 := keepc hb3_ u01
      have u02 := keepc hb3_ u02
      have u03 := keepc hb3_ u03
      have GM := hide (GM.out.below hb3_)
      have G0 := hide (G0.out.below hb3_)
      have G1 := hide (G1.out.below hb3_)
      have hB := bcall hB hb3_
      rw [decide_eq_true rfl]
      go_wp2
      go_ret
      exact ⟨rfl, hB⟩
set_option maxRecDepth 100000 in
set_option maxHeartbeats 8000000 in
theorem w_load (v : Value) (m : List Int) (t a b : Int) (w : World) (h : Cells w v m) (hbig : m.length * 8 ≤ 140737488351232) (ht : 0 ≤ t ∧ t < (m.length : Int)) : Calls Try.prog 4 #[v, ov 1 t a b] w fun e w' => e = .returned (.bool true) ∧ Below w.heap.size w w' := by
  have GM := hide h
  have hB : Below w.heap.size w w := Below.refl _ _
  obtain ⟨A, c, rfl, hc1, hc2, -⟩ := h
  unfold maxLen at hc2
  obtain ⟨i0, hi, hz0, hz1, hz2⟩ := info_parts infoU
  obtain ⟨j, rfl⟩ : ∃ j : Nat, t = j := ⟨t.toNat, by omega⟩
  have hj : j < m.length := by omega
  obtain ⟨y, hy⟩ : ∃ y, m[j] = y := ⟨_, rfl⟩
  have HF := hide (load_f hj hy a b)
  have HG0 := fun (i : Nat) (h : (i : Int) ≠ j) => mF_get m ⟨1, j, a, b⟩ i (by simpa using h)
  have hl0 := mF_len m ⟨1, j, a, b⟩
  obtain ⟨N, hN⟩ : ∃ N, mF m ⟨1, j, a, b⟩ = N := ⟨_, rfl⟩
  obtain rfl : N = m := hN.symm.trans HF.out.1
  rw [hN] at HG0 hl0
  have HM := hide hN
  have HV := hide HF.out.2.1
  have HD := hide HF.out.2.2
  have HY := hide hy
  clear hN hl0 HG0 hy
  obtain ⟨wp0, ep0, hbp0, hsp0, u00, u01, u02, u03⟩ := box4 w (.int .i64 1) (.int .i64 j) (.int .u64 a) (.int .u64 b) 26
  have HEP0 := hide ep0
  clear ep0
  have GM := hide (GM.out.below hbp0)
  have hB := bcall hB hbp0
  go_enter Try.func4, Try.ntmps4
  go_wp2_with fail
  rw [HEP0.out]
  (with_reducible refine (examples_any _).mono ?_)
  rintro e w0_ ⟨rfl, hb0_⟩
  have u00 := keepc hb0_ u00
  have u01 := keepc hb0_ u01
  have u02 := keepc hb0_ u02
  have u03 := keepc hb0_ u03
  have GM := hide (GM.out.below hb0_)
  have hB := bcall hB hb0_
  go_wp2_with (at_builtin; refine wpList_append_sl _ rfl _ _ 23 rfl w0_.heap.size 24 i0 (.int .u64 0) 1 8 Try.underlying23 hi hz0 hz1 hz2 rfl (by decide) _ _ _ rfl (World.ownsRow_nil _ _ _ _) _ N rfl GM.out uc_len (fun _ u hu => by simp [uc] at hu; subst hu; rfl) (by unfold maxLen; omega) (by omega) (by simp) ?_)
  intro v2 wa hown hba
  have hown : OwnC w0_.heap.size wa v2 N := by simpa using hown
  have G0 := hide hown.cells
  obtain ⟨A2, c2, rfl, hd1, hd2⟩ := own_form hown
  clear hown
  have u00 := keepc hba u00
  have u01 := keepc hba u01
  have u02 := keepc hba u02
  have u03 := keepc hba u03
  have GM := hide (GM.out.below hba)
  have hB := bcall hB hba
  go_wp2_with fail
  (with_reducible refine (Do_c _ N 1 j a b _ GM.out (by omega) N y true (HM.out) (HV.out) (HD.out) N.length (rfl)).mono ?_)
  rintro e w1_ ⟨A1_, c1_, rfl, q1_, G1, hb1_⟩
  have u00 := keepc hb1_ u00
  have u01 := keepc hb1_ u01
  have u02 := keepc hb1_ u02
  have u03 := keepc hb1_ u03
  have GM := hide (GM.out.below hb1_)
  have G0 := hide (G0.out.below hb1_)
  have hB := bcall hB hb1_
  have G1 := hide G1
  go_wp2_with fail
  (with_reducible refine (Same_any _ _ N N _ GM.out G0.out).mono ?_)
  rintro e w2_ ⟨rfl, hb2_⟩
  have u00 := keepc hb2_ u00
  have u01 := keepc hb2_ u01
  have u02 := keepc hb2_ u02
  have u03 := keepc hb2_ u03
  have GM := hide (GM.out.below hb2_)
  have G0 := hide (G0.out.below hb2_)
  have G1 := hide (G1.out.below hb2_)
  have hB := bcall hB hb2_
  rw [decide_eq_true rfl]
  go_wp2
  go_loopw [10] (fun i wr => ∃ x : Nat, x ≤ N.length ∧ i = .int .i64 x ∧ Below w2_.heap.size w2_ wr) (fun i _ => N.length - (Go.RowKit.intOf i).toNat)
  case atStart => exact ⟨0, Nat.zero_le _, rfl, Below.refl _ _⟩
  case round =>
    obtain ⟨x, hx, rfl, hbw⟩ := hrel
    have hbw0 := hbw
    have u00 := keepc hbw u00
    have u01 := keepc hbw u01
    have u02 := keepc hbw u02
    have u03 := keepc hbw u03
    have GM := hide (GM.out.below hbw)
    have G0 := hide (G0.out.below hbw)
    have G1 := hide (G1.out.below hbw)
    have hB := bcall hB hbw
    by_cases hlt : x < N.length
    · by_cases hxt : (x : Int) = (j : Int)
      · have q : ((x : Int) != (j : Int)) = false := by simp [hxt]
        clear hxt
        go_wp2
        go_quiet (fail)
        go_wp2
        go_roundw
        case rel => exact ⟨x + 1, by omega, by go_num, bdrewN hbw0 _⟩
        case measure => simp [Go.RowKit.intOf]; omega
      · have q : ((x : Int) != (j : Int)) = true := by simp [hxt]
        have hlN1 : x < N.length := hlt
        obtain ⟨b1, o1, rfl, -, e1⟩ := cells_at G1.out hlN1
        obtain ⟨b2, o2, rfl, -, e2⟩ := cells_at GM.out hlt
        generalize N[x] = z at *
        have q2 : (z != z) = false := by simp
        clear hxt
        go_wp2
        go_quiet (fail)
        go_wp2
        go_roundw
        case rel => exact ⟨x + 1, by omega, by go_num, bdrewN hbw0 _⟩
        case measure => simp [Go.RowKit.intOf]; omega
    · have hxe : x = N.length := by omega
      clear hlt
      obtain ⟨b2, o2, rfl, -, e2⟩ := cells_at GM.out hj
      rw [HY.out] at e2
      have q : (y == y) = true := by simp
      go_wp2_with fail
      (with_reducible refine (Same_any _ _ N N _ G1.out GM.out).mono ?_)
      rintro e w3_ ⟨rfl, hb3_⟩
      have u00 := keepc hb3_ u00
      have u01 := keepc hb3_ u01
      have u02 := keepc hb3_ u02
      have u03 := keepc hb3_ u03
      have e2 := keepc hb3_ e2
      have GM := hide (GM.out.below hb3_)
      have G0 := hide (G0.out.below hb3_)
      have G1 := hide (G1.out.below hb3_)
      have hB := bcall hB hb3_
      rw [decide_eq_true rfl]
      go_wp2
      go_ret
      exact ⟨rfl, hB⟩
set_option maxRecDepth 100000 in
set_option maxHeartbeats 8000000 in
theorem w_store (v : Value) (m : List Int) (t a b : Int) (w : World) (h : Cells w v m) (hbig : m.length * 8 ≤ 140737488351232) (ht : 0 ≤ t ∧ t < (m.length : Int)) : Calls Try.prog 4 #[v, ov 2 t a b] w fun e w' => e = .returned (.bool true) ∧ Below w.heap.size w w' := by
  have GM := hide h
  have hB : Below w.heap.size w w := Below.refl _ _
  obtain ⟨A, c, rfl, hc1, hc2, -⟩ := h
  unfold maxLen at hc2
  obtain ⟨i0, hi, hz0, hz1, hz2⟩ := info_parts infoU
  obtain ⟨j, rfl⟩ : ∃ j : Nat, t = j := ⟨t.toNat, by omega⟩
  have hj : j < m.length := by omega
  obtain ⟨y, hy⟩ : ∃ y, m[j] = y := ⟨_, rfl⟩
  have HF := hide (store_f hj hy a b)
  have HG0 := fun (i : Nat) (h : (i : Int) ≠ j) => mF_get m ⟨2, j, a, b⟩ i (by simpa using h)
  have hl0 := mF_len m ⟨2, j, a, b⟩
  obtain ⟨N, hN⟩ : ∃ N, mF m ⟨2, j, a, b⟩ = N := ⟨_, rfl⟩
  rw [hN] at HG0 hl0
  have HM := hide hN
  have HV := hide HF.out.2.1
  have HD := hide HF.out.2.2
  have hlN := hide hl0
  have HG := hide (fun (i : Nat) (h : i < N.length) (h' : i < m.length) (hne : (i : Int) ≠ (j : Int)) => (show N[i] = m[i] by have := HG0 i hne; rw [List.getElem?_eq_getElem h, List.getElem?_eq_getElem h'] at this; exact Option.some.inj this))
  have HY := hide hy
  clear hN hl0 HG0 hy
  obtain ⟨wp0, ep0, hbp0, hsp0, u00, u01, u02, u03⟩ := box4 w (.int .i64 2) (.int .i64 j) (.int .u64 a) (.int .u64 b) 26
  have HEP0 := hide ep0
  clear ep0
  have GM := hide (GM.out.below hbp0)
  have hB := bcall hB hbp0
  go_enter Try.func4, Try.ntmps4
  go_wp2_with fail
  rw [HEP0.out]
  (with_reducible refine (examples_any _).mono ?_)
  rintro e w0_ ⟨rfl, hb0_⟩
  have u00 := keepc hb0_ u00
  have u01 := keepc hb0_ u01
  have u02 := keepc hb0_ u02
  have u03 := keepc hb0_ u03
  have GM := hide (GM.out.below hb0_)
  have hB := bcall hB hb0_
  go_wp2_with (at_builtin; refine wpList_append_sl _ rfl _ _ 23 rfl w0_.heap.size 24 i0 (.int .u64 0) 1 8 Try.underlying23 hi hz0 hz1 hz2 rfl (by decide) _ _ _ rfl (World.ownsRow_nil _ _ _ _) _ m rfl GM.out uc_len (fun _ u hu => by simp [uc] at hu; subst hu; rfl) (by unfold maxLen; omega) (by omega) (by simp) ?_)
  intro v2 wa hown hba
  have hown : OwnC w0_.heap.size wa v2 m := by simpa using hown
  have G0 := hide hown.cells
  obtain ⟨A2, c2, rfl, hd1, hd2⟩ := own_form hown
  clear hown
  have u00 := keepc hba u00
  have u01 := keepc hba u01
  have u02 := keepc hba u02
  have u03 := keepc hba u03
  have GM := hide (GM.out.below hba)
  have hB := bcall hB hba
  go_wp2_with fail
  (with_reducible refine (Do_c _ m 2 j a b _ GM.out (by omega) N y true (HM.out) (HV.out) (HD.out) m.length (hlN.out)).mono ?_)
  rintro e w1_ ⟨A1_, c1_, rfl, q1_, G1, hb1_⟩
  have u00 := keepc hb1_ u00
  have u01 := keepc hb1_ u01
  have u02 := keepc hb1_ u02
  have u03 := keepc hb1_ u03
  have GM := hide (GM.out.below hb1_)
  have G0 := hide (G0.out.below hb1_)
  have hB := bcall hB hb1_
  have G1 := hide G1
  go_wp2_with fail
  (with_reducible refine (Same_any _ _ m m _ GM.out G0.out).mono ?_)
  rintro e w2_ ⟨rfl, hb2_⟩
  have u00 := keepc hb2_ u00
  have u01 := keepc hb2_ u01
  have u02 := keepc hb2_ u02
  have u03 := keepc hb2_ u03
  have GM := hide (GM.out.below hb2_)
  have G0 := hide (G0.out.below hb2_)
  have G1 := hide (G1.out.below hb2_)
  have hB := bcall hB hb2_
  rw [decide_eq_true rfl]
  go_wp2
  go_loopw [10] (fun i wr => ∃ x : Nat, x ≤ m.length ∧ i = .int .i64 x ∧ Below w2_.heap.size w2_ wr) (fun i _ => m.length - (Go.RowKit.intOf i).toNat)
  case atStart => exact ⟨0, Nat.zero_le _, rfl, Below.refl _ _⟩
  case round =>
    obtain ⟨x, hx, rfl, hbw⟩ := hrel
    have hbw0 := hbw
    have u00 := keepc hbw u00
    have u01 := keepc hbw u01
    have u02 := keepc hbw u02
    have u03 := keepc hbw u03
    have GM := hide (GM.out.below hbw)
    have G0 := hide (G0.out.below hbw)
    have G1 := hide (G1.out.below hbw)
    have hB := bcall hB hbw
    by_cases hlt : x < m.length
    · by_cases hxt : (x : Int) = (j : Int)
      · have q : ((x : Int) != (j : Int)) = false := by simp [hxt]
        clear hxt
        go_wp2
        go_quiet (fail)
        go_wp2
        go_roundw
        case rel => exact ⟨x + 1, by omega, by go_num, bdrewN hbw0 _⟩
        case measure => simp [Go.RowKit.intOf]; omega
      · have q : ((x : Int) != (j : Int)) = true := by simp [hxt]
        have hlN1 : x < N.length := by have := hlN.out; omega
        have hval := HG.out x hlN1 hlt hxt
        obtain ⟨b1, o1, rfl, -, e1⟩ := cells_at G1.out hlN1
        obtain ⟨b2, o2, rfl, -, e2⟩ := cells_at GM.out hlt
        rw [hval] at e1
        generalize m[x] = z at *
        have q2 : (z != z) = false := by simp
        clear hxt hval
        go_wp2
        go_quiet (fail)
        go_wp2
        go_roundw
        case rel => exact ⟨x + 1, by omega, by go_num, bdrewN hbw0 _⟩
        case measure => simp [Go.RowKit.intOf]; omega
    · have hxe : x = m.length := by omega
      clear hlt
      obtain ⟨b2, o2, rfl, -, e2⟩ := cells_at GM.out hj
      rw [HY.out] at e2
      have q : (y == y) = true := by simp
      go_wp2
      go_ret
      exact ⟨rfl, hB⟩
set_option maxRecDepth 100000 in
set_option maxHeartbeats 8000000 in
theorem w_yes (v : Value) (m : List Int) (t a b : Int) (w : World) (h : Cells w v m) (hbig : m.length * 8 ≤ 140737488351232) (ht : 0 ≤ t ∧ t < (m.length : Int)) (hq : m[t.toNat]? = some a) : Calls Try.prog 4 #[v, ov 3 t a b] w fun e w' => e = .returned (.bool true) ∧ Below w.heap.size w w' := by
  have GM := hide h
  have hB : Below w.heap.size w w := Below.refl _ _
  obtain ⟨A, c, rfl, hc1, hc2, -⟩ := h
  unfold maxLen at hc2
  obtain ⟨i0, hi, hz0, hz1, hz2⟩ := info_parts infoU
  obtain ⟨j, rfl⟩ : ∃ j : Nat, t = j := ⟨t.toNat, by omega⟩
  have hj : j < m.length := by omega
  obtain ⟨y, hy⟩ : ∃ y, m[j] = y := ⟨_, rfl⟩
  have hya : y = a := by simpa [List.getElem?_eq_getElem hj, hy] using hq
  have HF := hide (show True ∧ vF m ⟨3, (j : Int), a, b⟩ = y ∧ okF m ⟨3, (j : Int), a, b⟩ = true from ⟨trivial, (on_place hj 3 (by decide) hy a b).1, by rw [(on_place hj 3 (by decide) hy a b).2.1]; simp [hya]⟩)
  clear hq hya
  have HG0 := fun (i : Nat) (h : (i : Int) ≠ j) => mF_get m ⟨3, j, a, b⟩ i (by simpa using h)
  have hl0 := mF_len m ⟨3, j, a, b⟩
  obtain ⟨N, hN⟩ : ∃ N, mF m ⟨3, j, a, b⟩ = N := ⟨_, rfl⟩
  rw [hN] at HG0 hl0
  have HM := hide hN
  have HV := hide HF.out.2.1
  have HD := hide HF.out.2.2
  have hlN := hide hl0
  have HG := hide (fun (i : Nat) (h : i < N.length) (h' : i < m.length) (hne : (i : Int) ≠ (j : Int)) => (show N[i] = m[i] by have := HG0 i hne; rw [List.getElem?_eq_getElem h, List.getElem?_eq_getElem h'] at this; exact Option.some.inj this))
  have HY := hide hy
  clear hN hl0 HG0 hy
  obtain ⟨wp0, ep0, hbp0, hsp0, u00, u01, u02, u03⟩ := box4 w (.int .i64 3) (.int .i64 j) (.int .u64 a) (.int .u64 b) 26
  have HEP0 := hide ep0
  clear ep0
  have GM := hide (GM.out.below hbp0)
  have hB := bcall hB hbp0
  go_enter Try.func4, Try.ntmps4
  go_wp2_with fail
  rw [HEP0.out]
  (with_reducible refine (examples_any _).mono ?_)
  rintro e w0_ ⟨rfl, hb0_⟩
  have u00 := keepc hb0_ u00
  have u01 := keepc hb0_ u01
  have u02 := keepc hb0_ u02
  have u03 := keepc hb0_ u03
  have GM := hide (GM.out.below hb0_)
  have hB := bcall hB hb0_
  go_wp2_with (at_builtin; refine wpList_append_sl _ rfl _ _ 23 rfl w0_.heap.size 24 i0 (.int .u64 0) 1 8 Try.underlying23 hi hz0 hz1 hz2 rfl (by decide) _ _ _ rfl (World.ownsRow_nil _ _ _ _) _ m rfl GM.out uc_len (fun _ u hu => by simp [uc] at hu; subst hu; rfl) (by unfold maxLen; omega) (by omega) (by simp) ?_)
  intro v2 wa hown hba
  have hown : OwnC w0_.heap.size wa v2 m := by simpa using hown
  have G0 := hide hown.cells
  obtain ⟨A2, c2, rfl, hd1, hd2⟩ := own_form hown
  clear hown
  have u00 := keepc hba u00
  have u01 := keepc hba u01
  have u02 := keepc hba u02
  have u03 := keepc hba u03
  have GM := hide (GM.out.below hba)
  have hB := bcall hB hba
  go_wp2_with fail
  (with_reducible refine (Do_c _ m 3 j a b _ GM.out (by omega) N y true (HM.out) (HV.out) (HD.out) m.length (hlN.out)).mono ?_)
  rintro e w1_ ⟨A1_, c1_, rfl, q1_, G1, hb1_⟩
  have u00 := keepc hb1_ u00
  have u01 := keepc hb1_ u01
  have u02 := keepc hb1_ u02
  have u03 := keepc hb1_ u03
  have GM := hide (GM.out.below hb1_)
  have G0 := hide (G0.out.below hb1_)
  have hB := bcall hB hb1_
  have G1 := hide G1
  go_wp2_with fail
  (with_reducible refine (Same_any _ _ m m _ GM.out G0.out).mono ?_)
  rintro e w2_ ⟨rfl, hb2_⟩
  have u00 := keepc hb2_ u00
  have u01 := keepc hb2_ u01
  have u02 := keepc hb2_ u02
  have u03 := keepc hb2_ u03
  have GM := hide (GM.out.below hb2_)
  have G0 := hide (G0.out.below hb2_)
  have G1 := hide (G1.out.below hb2_)
  have hB := bcall hB hb2_
  rw [decide_eq_true rfl]
  go_wp2
  go_loopw [10] (fun i wr => ∃ x : Nat, x ≤ m.length ∧ i = .int .i64 x ∧ Below w2_.heap.size w2_ wr) (fun i _ => m.length - (Go.RowKit.intOf i).toNat)
  case atStart => exact ⟨0, Nat.zero_le _, rfl, Below.refl _ _⟩
  case round =>
    obtain ⟨x, hx, rfl, hbw⟩ := hrel
    have hbw0 := hbw
    have u00 := keepc hbw u00
    have u01 := keepc hbw u01
    have u02 := keepc hbw u02
    have u03 := keepc hbw u03
    have GM := hide (GM.out.below hbw)
    have G0 := hide (G0.out.below hbw)
    have G1 := hide (G1.out.below hbw)
    have hB := bcall hB hbw
    by_cases hlt : x < m.length
    · by_cases hxt : (x : Int) = (j : Int)
      · have q : ((x : Int) != (j : Int)) = false := by simp [hxt]
        clear hxt
        go_wp2
        go_quiet (fail)
        go_wp2
        go_roundw
        case rel => exact ⟨x + 1, by omega, by go_num, bdrewN hbw0 _⟩
        case measure => simp [Go.RowKit.intOf]; omega
      · have q : ((x : Int) != (j : Int)) = true := by simp [hxt]
        have hlN1 : x < N.length := by have := hlN.out; omega
        have hval := HG.out x hlN1 hlt hxt
        obtain ⟨b1, o1, rfl, -, e1⟩ := cells_at G1.out hlN1
        obtain ⟨b2, o2, rfl, -, e2⟩ := cells_at GM.out hlt
        rw [hval] at e1
        generalize m[x] = z at *
        have q2 : (z != z) = false := by simp
        clear hxt hval
        go_wp2
        go_quiet (fail)
        go_wp2
        go_roundw
        case rel => exact ⟨x + 1, by omega, by go_num, bdrewN hbw0 _⟩
        case measure => simp [Go.RowKit.intOf]; omega
    · have hxe : x = m.length := by omega
      clear hlt
      obtain ⟨b2, o2, rfl, -, e2⟩ := cells_at GM.out hj
      rw [HY.out] at e2
      have q : (y == y) = true := by simp
      go_wp2
      go_ret
      exact ⟨rfl, hB⟩
set_option maxRecDepth 100000 in
set_option maxHeartbeats 8000000 in
theorem w_no (v : Value) (m : List Int) (t a b : Int) (w : World) (h : Cells w v m) (hbig : m.length * 8 ≤ 140737488351232) (ht : 0 ≤ t ∧ t < (m.length : Int)) (hq : m[t.toNat]? ≠ some a) : Calls Try.prog 4 #[v, ov 3 t a b] w fun e w' => e = .returned (.bool true) ∧ Below w.heap.size w w' := by
  have GM := hide h
  have hB : Below w.heap.size w w := Below.refl _ _
  obtain ⟨A, c, rfl, hc1, hc2, -⟩ := h
  unfold maxLen at hc2
  obtain ⟨i0, hi, hz0, hz1, hz2⟩ := info_parts infoU
  obtain ⟨j, rfl⟩ : ∃ j : Nat, t = j := ⟨t.toNat, by omega⟩
  have hj : j < m.length := by omega
  obtain ⟨y, hy⟩ : ∃ y, m[j] = y := ⟨_, rfl⟩
  have hya : y ≠ a := by intro e; apply hq; simp [List.getElem?_eq_getElem hj, hy, e]
  have HF := hide (show True ∧ vF m ⟨3, (j : Int), a, b⟩ = y ∧ okF m ⟨3, (j : Int), a, b⟩ = false from ⟨trivial, (on_place hj 3 (by decide) hy a b).1, by rw [(on_place hj 3 (by decide) hy a b).2.1]; simp [hya]⟩)
  clear hq hya
  have HG0 := fun (i : Nat) (h : (i : Int) ≠ j) => mF_get m ⟨3, j, a, b⟩ i (by simpa using h)
  have hl0 := mF_len m ⟨3, j, a, b⟩
  obtain ⟨N, hN⟩ : ∃ N, mF m ⟨3, j, a, b⟩ = N := ⟨_, rfl⟩
  rw [hN] at HG0 hl0
  have HM := hide hN
  have HV := hide HF.out.2.1
  have HD := hide HF.out.2.2
  have hlN := hide hl0
  have HG := hide (fun (i : Nat) (h : i < N.length) (h' : i < m.length) (hne : (i : Int) ≠ (j : Int)) => (show N[i] = m[i] by have := HG0 i hne; rw [List.getElem?_eq_getElem h, List.getElem?_eq_getElem h'] at this; exact Option.some.inj this))
  have HY := hide hy
  clear hN hl0 HG0 hy
  obtain ⟨wp0, ep0, hbp0, hsp0, u00, u01, u02, u03⟩ := box4 w (.int .i64 3) (.int .i64 j) (.int .u64 a) (.int .u64 b) 26
  have HEP0 := hide ep0
  clear ep0
  have GM := hide (GM.out.below hbp0)
  have hB := bcall hB hbp0
  go_enter Try.func4, Try.ntmps4
  go_wp2_with fail
  rw [HEP0.out]
  (with_reducible refine (examples_any _).mono ?_)
  rintro e w0_ ⟨rfl, hb0_⟩
  have u00 := keepc hb0_ u00
  have u01 := keepc hb0_ u01
  have u02 := keepc hb0_ u02
  have u03 := keepc hb0_ u03
  have GM := hide (GM.out.below hb0_)
  have hB := bcall hB hb0_
  go_wp2_with (at_builtin; refine wpList_append_sl _ rfl _ _ 23 rfl w0_.heap.size 24 i0 (.int .u64 0) 1 8 Try.underlying23 hi hz0 hz1 hz2 rfl (by decide) _ _ _ rfl (World.ownsRow_nil _ _ _ _) _ m rfl GM.out uc_len (fun _ u hu => by simp [uc] at hu; subst hu; rfl) (by unfold maxLen; omega) (by omega) (by simp) ?_)
  intro v2 wa hown hba
  have hown : OwnC w0_.heap.size wa v2 m := by simpa using hown
  have G0 := hide hown.cells
  obtain ⟨A2, c2, rfl, hd1, hd2⟩ := own_form hown
  clear hown
  have u00 := keepc hba u00
  have u01 := keepc hba u01
  have u02 := keepc hba u02
  have u03 := keepc hba u03
  have GM := hide (GM.out.below hba)
  have hB := bcall hB hba
  go_wp2_with fail
  (with_reducible refine (Do_c _ m 3 j a b _ GM.out (by omega) N y false (HM.out) (HV.out) (HD.out) m.length (hlN.out)).mono ?_)
  rintro e w1_ ⟨A1_, c1_, rfl, q1_, G1, hb1_⟩
  have u00 := keepc hb1_ u00
  have u01 := keepc hb1_ u01
  have u02 := keepc hb1_ u02
  have u03 := keepc hb1_ u03
  have GM := hide (GM.out.below hb1_)
  have G0 := hide (G0.out.below hb1_)
  have hB := bcall hB hb1_
  have G1 := hide G1
  go_wp2_with fail
  (with_reducible refine (Same_any _ _ m m _ GM.out G0.out).mono ?_)
  rintro e w2_ ⟨rfl, hb2_⟩
  have u00 := keepc hb2_ u00
  have u01 := keepc hb2_ u01
  have u02 := keepc hb2_ u02
  have u03 := keepc hb2_ u03
  have GM := hide (GM.out.below hb2_)
  have G0 := hide (G0.out.below hb2_)
  have G1 := hide (G1.out.below hb2_)
  have hB := bcall hB hb2_
  rw [decide_eq_true rfl]
  go_wp2
  go_loopw [10] (fun i wr => ∃ x : Nat, x ≤ m.length ∧ i = .int .i64 x ∧ Below w2_.heap.size w2_ wr) (fun i _ => m.length - (Go.RowKit.intOf i).toNat)
  case atStart => exact ⟨0, Nat.zero_le _, rfl, Below.refl _ _⟩
  case round =>
    obtain ⟨x, hx, rfl, hbw⟩ := hrel
    have hbw0 := hbw
    have u00 := keepc hbw u00
    have u01 := keepc hbw u01
    have u02 := keepc hbw u02
    have u03 := keepc hbw u03
    have GM := hide (GM.out.below hbw)
    have G0 := hide (G0.out.below hbw)
    have G1 := hide (G1.out.below hbw)
    have hB := bcall hB hbw
    by_cases hlt : x < m.length
    · by_cases hxt : (x : Int) = (j : Int)
      · have q : ((x : Int) != (j : Int)) = false := by simp [hxt]
        clear hxt
        go_wp2
        go_quiet (fail)
        go_wp2
        go_roundw
        case rel => exact ⟨x + 1, by omega, by go_num, bdrewN hbw0 _⟩
        case measure => simp [Go.RowKit.intOf]; omega
      · have q : ((x : Int) != (j : Int)) = true := by simp [hxt]
        have hlN1 : x < N.length := by have := hlN.out; omega
        have hval := HG.out x hlN1 hlt hxt
        obtain ⟨b1, o1, rfl, -, e1⟩ := cells_at G1.out hlN1
        obtain ⟨b2, o2, rfl, -, e2⟩ := cells_at GM.out hlt
        rw [hval] at e1
        generalize m[x] = z at *
        have q2 : (z != z) = false := by simp
        clear hxt hval
        go_wp2
        go_quiet (fail)
        go_wp2
        go_roundw
        case rel => exact ⟨x + 1, by omega, by go_num, bdrewN hbw0 _⟩
        case measure => simp [Go.RowKit.intOf]; omega
    · have hxe : x = m.length := by omega
      clear hlt
      obtain ⟨b2, o2, rfl, -, e2⟩ := cells_at GM.out hj
      rw [HY.out] at e2
      have q : (y == y) = true := by simp
      go_wp2
      go_ret
      exact ⟨rfl, hB⟩
set_option maxRecDepth 100000 in
set_option maxHeartbeats 8000000 in
theorem w_add (v : Value) (m : List Int) (t a b : Int) (w : World) (h : Cells w v m) (hbig : m.length * 8 ≤ 140737488351232) (ht : 0 ≤ t ∧ t < (m.length : Int)) : Calls Try.prog 4 #[v, ov 4 t a b] w fun e w' => e = .returned (.bool true) ∧ Below w.heap.size w w' := by
  have GM := hide h
  have hB : Below w.heap.size w w := Below.refl _ _
  obtain ⟨A, c, rfl, hc1, hc2, -⟩ := h
  unfold maxLen at hc2
  obtain ⟨i0, hi, hz0, hz1, hz2⟩ := info_parts infoU
  obtain ⟨j, rfl⟩ : ∃ j : Nat, t = j := ⟨t.toNat, by omega⟩
  have hj : j < m.length := by omega
  obtain ⟨y, hy⟩ : ∃ y, m[j] = y := ⟨_, rfl⟩
  have HF := hide (add_f hj hy a b)
  have HG0 := fun (i : Nat) (h : (i : Int) ≠ j) => mF_get m ⟨4, j, a, b⟩ i (by simpa using h)
  have hl0 := mF_len m ⟨4, j, a, b⟩
  obtain ⟨N, hN⟩ : ∃ N, mF m ⟨4, j, a, b⟩ = N := ⟨_, rfl⟩
  rw [hN] at HG0 hl0
  have HM := hide hN
  have HV := hide HF.out.2.1
  have HD := hide HF.out.2.2
  have hlN := hide hl0
  have HG := hide (fun (i : Nat) (h : i < N.length) (h' : i < m.length) (hne : (i : Int) ≠ (j : Int)) => (show N[i] = m[i] by have := HG0 i hne; rw [List.getElem?_eq_getElem h, List.getElem?_eq_getElem h'] at this; exact Option.some.inj this))
  have HY := hide hy
  clear hN hl0 HG0 hy
  obtain ⟨wp0, ep0, hbp0, hsp0, u00, u01, u02, u03⟩ := box4 w (.int .i64 4) (.int .i64 j) (.int .u64 a) (.int .u64 b) 26
  have HEP0 := hide ep0
  clear ep0
  have GM := hide (GM.out.below hbp0)
  have hB := bcall hB hbp0
  go_enter Try.func4, Try.ntmps4
  go_wp2_with fail
  rw [HEP0.out]
  (with_reducible refine (examples_any _).mono ?_)
  rintro e w0_ ⟨rfl, hb0_⟩
  have u00 := keepc hb0_ u00
  have u01 := keepc hb0_ u01
  have u02 := keepc hb0_ u02
  have u03 := keepc hb0_ u03
  have GM := hide (GM.out.below hb0_)
  have hB := bcall hB hb0_
  go_wp2_with (at_builtin; refine wpList_append_sl _ rfl _ _ 23 rfl w0_.heap.size 24 i0 (.int .u64 0) 1 8 Try.underlying23 hi hz0 hz1 hz2 rfl (by decide) _ _ _ rfl (World.ownsRow_nil _ _ _ _) _ m rfl GM.out uc_len (fun _ u hu => by simp [uc] at hu; subst hu; rfl) (by unfold maxLen; omega) (by omega) (by simp) ?_)
  intro v2 wa hown hba
  have hown : OwnC w0_.heap.size wa v2 m := by simpa using hown
  have G0 := hide hown.cells
  obtain ⟨A2, c2, rfl, hd1, hd2⟩ := own_form hown
  clear hown
  have u00 := keepc hba u00
  have u01 := keepc hba u01
  have u02 := keepc hba u02
  have u03 := keepc hba u03
  have GM := hide (GM.out.below hba)
  have hB := bcall hB hba
  go_wp2_with fail
  (with_reducible refine (Do_c _ m 4 j a b _ GM.out (by omega) N y true (HM.out) (HV.out) (HD.out) m.length (hlN.out)).mono ?_)
  rintro e w1_ ⟨A1_, c1_, rfl, q1_, G1, hb1_⟩
  have u00 := keepc hb1_ u00
  have u01 := keepc hb1_ u01
  have u02 := keepc hb1_ u02
  have u03 := keepc hb1_ u03
  have GM := hide (GM.out.below hb1_)
  have G0 := hide (G0.out.below hb1_)
  have hB := bcall hB hb1_
  have G1 := hide G1
  go_wp2_with fail
  (with_reducible refine (Same_any _ _ m m _ GM.out G0.out).mono ?_)
  rintro e w2_ ⟨rfl, hb2_⟩
  have u00 := keepc hb2_ u00
  have u01 := keepc hb2_ u01
  have u02 := keepc hb2_ u02
  have u03 := keepc hb2_ u03
  have GM := hide (GM.out.below hb2_)
  have G0 := hide (G0.out.below hb2_)
  have G1 := hide (G1.out.below hb2_)
  have hB := bcall hB hb2_
  rw [decide_eq_true rfl]
  go_wp2
  go_loopw [10] (fun i wr => ∃ x : Nat, x ≤ m.length ∧ i = .int .i64 x ∧ Below w2_.heap.size w2_ wr) (fun i _ => m.length - (Go.RowKit.intOf i).toNat)
  case atStart => exact ⟨0, Nat.zero_le _, rfl, Below.refl _ _⟩
  case round =>
    obtain ⟨x, hx, rfl, hbw⟩ := hrel
    have hbw0 := hbw
    have u00 := keepc hbw u00
    have u01 := keepc hbw u01
    have u02 := keepc hbw u02
    have u03 := keepc hbw u03
    have GM := hide (GM.out.below hbw)
    have G0 := hide (G0.out.below hbw)
    have G1 := hide (G1.out.below hbw)
    have hB := bcall hB hbw
    by_cases hlt : x < m.length
    · by_cases hxt : (x : Int) = (j : Int)
      · have q : ((x : Int) != (j : Int)) = false := by simp [hxt]
        clear hxt
        go_wp2
        go_quiet (fail)
        go_wp2
        go_roundw
        case rel => exact ⟨x + 1, by omega, by go_num, bdrewN hbw0 _⟩
        case measure => simp [Go.RowKit.intOf]; omega
      · have q : ((x : Int) != (j : Int)) = true := by simp [hxt]
        have hlN1 : x < N.length := by have := hlN.out; omega
        have hval := HG.out x hlN1 hlt hxt
        obtain ⟨b1, o1, rfl, -, e1⟩ := cells_at G1.out hlN1
        obtain ⟨b2, o2, rfl, -, e2⟩ := cells_at GM.out hlt
        rw [hval] at e1
        generalize m[x] = z at *
        have q2 : (z != z) = false := by simp
        clear hxt hval
        go_wp2
        go_quiet (fail)
        go_wp2
        go_roundw
        case rel => exact ⟨x + 1, by omega, by go_num, bdrewN hbw0 _⟩
        case measure => simp [Go.RowKit.intOf]; omega
    · have hxe : x = m.length := by omega
      clear hlt
      obtain ⟨b2, o2, rfl, -, e2⟩ := cells_at GM.out hj
      rw [HY.out] at e2
      have q : (y == y) = true := by simp
      go_wp2
      go_ret
      exact ⟨rfl, hB⟩
theorem walk (v : Value) (m : List Int) (k t a b : Int) (w : World) (h : Cells w v m) (hbig : m.length * 8 ≤ 140737488351232) : Calls Try.prog 4 #[v, ov k t a b] w fun e w' => e = .returned (.bool true) ∧ Below w.heap.size w w' := by
  by_cases h1 : t < 0
  · exact w_neg v m k t a b w h hbig h1
  · by_cases h2 : (m.length : Int) ≤ t
    · exact w_far v m k t a b w h hbig h2 (by omega)
    · have ht : 0 ≤ t ∧ t < (m.length : Int) := by omega
      by_cases h3 : k < 1
      · exact w_low v m k t a b w h hbig ht h3
      · by_cases h4 : 4 < k
        · exact w_high v m k t a b w h hbig ht h4
        · obtain rfl | rfl | rfl | rfl : k = 1 ∨ k = 2 ∨ k = 3 ∨ k = 4 := by omega
          · exact w_load v m t a b w h hbig ht
          · exact w_store v m t a b w h hbig ht
          · by_cases hq : m[t.toNat]? = some a
            · exact w_yes v m t a b w h hbig ht hq
            · exact w_no v m t a b w h hbig ht hq
          · exact w_add v m t a b w h hbig ht

set_option maxRecDepth 100000 in
theorem lifted (os : Os) (started : os.Started) (H : Type) (enc : TypeId × Value → H) :
    ReturnsInHanded {} Try.checked os 4 .any (Rows.memOneSpec.pre6 enc Try.prog Try.f4 Rows.memOneRow.domain false) (Rows.memOneSpec.post enc Try.prog Try.f4 false true false false) := by
  refine returnsInHanded_of_change_sized (C := Try.checked) ownL started (by kernel_rfl) Try.func4
    (ChangeSpec.witness6 (enc := enc) (C := Try.checked) false ⟨#[], #[.slice none 0 0, .agg #[.int .i64 0, .int .i64 0, .int .u64 0, .int .u64 0]], []⟩ 8 (by kernel_rfl) (by kernel_rfl) (by kernel_rfl) (by kernel_rfl)) ?_
  intro W base args ds gs before hval hW _ hsz0 _
  have hW' := hW
  obtain ⟨p, q, hA0, hV, rfl, hfz, hnd⟩ := hW
  have hA : DataW.TrodAll enc Try.prog W 0 (fun _ => true) true Try.f4.params.toList args.toList ds p := hA0
  rw [Try.params4] at hA hval
  obtain ⟨v0, vs0, d0, ds0, p0, q0, hargs, rfl, rfl, h0, r0⟩ := trodAll_cons hA
  obtain ⟨v1, vs1, d1, ds1, p1, q1, rfl, rfl, rfl, h1, r1⟩ := trodAll_cons r0
  obtain ⟨rfl, rfl, rfl⟩ := trodAll_nil r1
  obtain rfl : args = #[v0, v1] := by cases args; simp_all
  obtain ⟨rfl, rfl⟩ := trodVars_none hV
  obtain ⟨l0, hl0, hq0, hd0⟩ := open_cells (hval 0 23 v0 rfl rfl) h0
  obtain ⟨k1, t1, a1, b1, rfl, hq1⟩ := open_op (hval 1 26 v1 rfl rfl) h1
  have hsz : (DataW.weightsEach Try.prog [23, 26] ([d0, d1] : List (DataW H))).all (· ≤ reachBytes) = true := hsz0
  have e0 : l0.length * 8 ≤ 140737488351232 := slice_reach hsz 0 rfl rfl Try.underlying23 (by kernel_rfl) hd0
  refine (walk v0 l0 k1 t1 a1 b1 W hl0 (by omega)).mono fun e W' ⟨he, hg⟩ => ?_
  subst he
  exact ⟨_, rfl, law_post laidOutL (by kernel_rfl) rfl Try.underlying4 rfl ⟨rfl, rfl, rfl⟩ hW' hg⟩

/-- THE STATEMENT -/
theorem proved : Rows.MemOneSaid :=
  OpenClaim.holds_of_wide 4 Try.f4 rfl rfl rfl rfl rfl rfl rfl ⟨rfl, rfl, rfl, rfl, rfl⟩ rfl rfl rfl rfl rfl (by kernel_rfl) Try.func4 (by kernel_rfl)
    (of_decide_eq_true (by kernel_rfl)) (by unfold Func.isWrapper; first | (rw [if_pos (by decide +kernel)]; kernel_rfl) | (rw [if_neg (by decide +kernel)]; exact ⟨rfl, rfl⟩))
    (fun os started H enc _ => lifted os started H enc)
end Go.Proofs.Ytncflfpmdcjmcaa.lawMemOne
