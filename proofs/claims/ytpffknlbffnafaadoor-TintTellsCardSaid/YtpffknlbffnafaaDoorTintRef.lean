/- Layer tint: the document's own answer, on one object. -/
import Derived.Test.YtpffknlbffnafaaDoorTintTurn
import Derived.Test.YtpffknlbffnafaaDoorSetRef2
namespace Go.Proofs.YtpffknlbffnafaaDoor
open Go.RowKit
theorem guardR : Tryd.prog.eqGuardType Tryd.prog.depth 28 = false := by kernel_rfl
/-- the grey ones, taken away -/
theorem greys_sub {m b : Nat} (hm : m < 18446744073709551616) (hb : b < 18446744073709551616) : IntKind.u64.wrap ((m : Int) - ((m &&& b : Nat) : Int)) = ((tGreys m b : Nat) : Int) := by
  have hle : m &&& b ≤ m := Nat.and_le_left
  have hlt := tGreys_lt b hm
  have e : (tGreys m b + (m &&& b)) % 18446744073709551616 = m := by
    have h2 : tGreys m b &&& (m &&& b) = 0 := by
      unfold tGreys
      apply Nat.eq_of_testBit_eq
      intro i
      rw [Nat.testBit_and, Nat.testBit_and, Nat.testBit_and, testBit_not _ _ hb, Nat.zero_testBit]
      cases m.testBit i <;> cases b.testBit i <;> simp
    have h3 : tGreys m b ||| (m &&& b) = m := by
      unfold tGreys
      apply Nat.eq_of_testBit_eq
      intro i
      rw [Nat.testBit_or, Nat.testBit_and, Nat.testBit_and, testBit_not _ _ hb]
      cases h : m.testBit i with
      | false => rfl
      | true => have := testBit_high hm h; cases b.testBit i <;> simp [this]
    have h4 := BitVec.add_eq_or_of_and_eq_zero (BitVec.ofNat 64 (tGreys m b)) (BitVec.ofNat 64 (m &&& b)) (by rw [← BitVec.ofNat_and, h2])
    have h5 := congrArg BitVec.toNat h4
    rw [← BitVec.ofNat_or, h3, ← BitVec.ofNat_add, BitVec.toNat_ofNat, BitVec.toNat_ofNat, p64, Nat.mod_eq_of_lt hm] at h5
    exact h5
  rw [IntKind.wrap_u64]; omega
theorem sh_free {m b : Nat} {o : Int} (h : tFree m b o = true) : (1 ≤ o ∧ o ≤ 64) ∧ hasF m o = false ∧ hasF b o = false := free_iff.1 h
theorem nofree_has {m b : Nat} {o : Int} (h : hasF m o = true ∨ hasF b o = true) : tFree m b o = false := by
  unfold tFree; rcases h with h | h <;> simp [h]
theorem nofree_rng {m b : Nat} {o : Int} (h : ¬ (1 ≤ o ∧ o ≤ 64)) : tFree m b o = false := by
  unfold tFree; rw [decide_eq_false h]; rfl
theorem free_of {m b : Nat} {o : Int} (h1 : 1 ≤ o) (h2 : o ≤ 64) (hm : hasF m o = false) (hb : hasF b o = false) : tFree m b o = true := free_iff.2 ⟨⟨h1, h2⟩, hm, hb⟩
theorem rOf_any (m b : Nat) (o : Int) (hm : m < 18446744073709551616) (hb : b < 18446744073709551616) (h0 : -9223372036854775808 ≤ o) (h1 : o ≤ 9223372036854775807) (w : World) :
    Calls Tryd.prog 22 #[tv m b, .int .i64 o] w fun e w' => e = .returned (.int .i64 (tOf m b o)) ∧ Below w.heap.size w w' := by
  cases hM : hasF m o
  · have H := hide hM
    have E := hide (tOf_no m b o hM)
    clear hM
    go_enter Tryd.func22, Tryd.ntmps22
    go_wp2_with fail
    (with_reducible refine (rHas_any m o _ hm h0 h1).mono ?_)
    rintro e _ ⟨rfl, rfl⟩
    rw [H.out]
    go_wp2
    go_ret
    exact ⟨ret_int E.out.symm, bal _ _⟩
  · cases hB : hasF b o
    · have H := hide hM
      have K := hide hB
      have E := hide (tOf_grey m b o hM hB)
      clear hM hB
      go_enter Tryd.func22, Tryd.ntmps22
      go_wp2_with fail
      (with_reducible refine (rHas_any m o _ hm h0 h1).mono ?_)
      rintro e _ ⟨rfl, rfl⟩
      rw [H.out]
      go_wp2_with fail
      (with_reducible refine (rHas_any b o _ hb h0 h1).mono ?_)
      rintro e _ ⟨rfl, rfl⟩
      rw [K.out]
      go_wp2
      go_ret
      exact ⟨ret_int E.out.symm, bal _ _⟩
    · have H := hide hM
      have K := hide hB
      have E := hide (tOf_black m b o hM hB)
      clear hM hB
      go_enter Tryd.func22, Tryd.ntmps22
      go_wp2_with fail
      (with_reducible refine (rHas_any m o _ hm h0 h1).mono ?_)
      rintro e _ ⟨rfl, rfl⟩
      rw [H.out]
      go_wp2_with fail
      (with_reducible refine (rHas_any b o _ hb h0 h1).mono ?_)
      rintro e _ ⟨rfl, rfl⟩
      rw [K.out]
      go_wp2
      go_ret
      exact ⟨ret_int E.out.symm, bal _ _⟩
theorem rGreys_any (m b : Nat) (hm : m < 18446744073709551616) (hb : b < 18446744073709551616) (w : World) :
    Calls Tryd.prog 24 #[tv m b] w fun e w' => e = .returned (.int .u64 (tGreys m b : Nat)) ∧ Below w.heap.size w w' := by
  have hB := hide (bits_and_u64_nat m b hm hb)
  have hG := hide (greys_sub hm hb)
  go_enter Tryd.func24, Tryd.ntmps24
  go_wp2
  try go_quiet (fail)
  try go_wp2
  go_ret
  refine ⟨ret_u64 (by rw [hB.out]; exact hG.out), ?_⟩
  first | exact bal _ _ | exact bdrewN (bal _ _) _
set_option maxHeartbeats 4000000 in
theorem rRight_any (m b : Nat) (o : Int) (hm : m < 18446744073709551616) (hb : b < 18446744073709551616) (h0 : -9223372036854775808 ≤ o) (h1 : o ≤ 9223372036854775807) (w : World) :
    Calls Tryd.prog 20 #[tv m b, .int .i64 o] w fun e w' => e = .returned (.bool (tRight m b o)) ∧ Below w.heap.size w w' := by
  cases hU : underF b m
  · have E := hide (show tRight m b o = false by unfold tRight; rw [hU]; rfl)
    go_enter Tryd.func20, Tryd.ntmps20
    go_wp2_with fail
    go_quiet (first | (go_at_call 37; first | exact Calls.quiet_of_same (rUnder_any b m _ hb hm) | exact Calls.quiet_of_same (rUnder_any m (firstF o) _ hm (first_lt _))) | (go_at_call 38; exact Calls.quiet_of_same (rFirst_any o _ h0 h1)))
    (try rw [hU])
    go_wp2
    go_ret
    exact ⟨ret_bool E.out.symm, bdrewN (bal _ _) _⟩
  · have E := hide (show tRight m b o = underF m (firstF o) by unfold tRight; rw [hU]; rfl)
    go_enter Tryd.func20, Tryd.ntmps20
    go_wp2_with fail
    go_quiet (first | (go_at_call 37; first | exact Calls.quiet_of_same (rUnder_any b m _ hb hm) | exact Calls.quiet_of_same (rUnder_any m (firstF o) _ hm (first_lt _))) | (go_at_call 38; exact Calls.quiet_of_same (rFirst_any o _ h0 h1)))
    (try rw [hU])
    go_wp2
    go_ret
    exact ⟨ret_bool E.out.symm, bdrewN (bal _ _) _⟩
set_option maxHeartbeats 4000000 in
theorem rShade_any (m b : Nat) (o : Int) (hm : m < 18446744073709551616) (hb : b < 18446744073709551616) (h0 : -9223372036854775808 ≤ o) (h1 : o ≤ 9223372036854775807) (w : World) :
    Calls Tryd.prog 12 #[tv m b, .int .i64 o] w fun e w' => e = .returned (.tuple #[tv (shM m b o) b, .bool (tFree m b o)]) ∧ Below w.heap.size w w' := by
  obtain ⟨w1, ew, hB1, hS1, k0, k1, k2, k3, f0, f1, f2, f3⟩ := box3 w (.int .u64 m) (.int .u64 b) (.int .u64 0) (.int .u64 0) 28
  have HE := hide ew
  clear ew
  by_cases hr : 1 ≤ o ∧ o ≤ 64
  · obtain ⟨r1, r2⟩ := hr
    have q1 : ¬ o < 1 := by omega
    have q2 : ¬ 64 < o := by omega
    cases hM : hasF m o
    · cases hK : hasF b o
      · have F := hide (free_of r1 r2 hM hK)
        have E := hide (free_yes F.out)
        have H := hide hM
        have K := hide hK
        clear hM hK
        go_enter Tryd.func12, Tryd.ntmps12
        go_wp2_with fail
        rw [HE.out]
        (with_reducible refine (rHas_any m o _ hm h0 h1).mono ?_)
        rintro e _ ⟨rfl, rfl⟩
        rw [H.out]
        go_wp2_with fail
        (with_reducible refine (rHas_any b o _ hb h0 h1).mono ?_)
        rintro e _ ⟨rfl, rfl⟩
        rw [K.out]
        go_upto_region 3 with (fail)
        go_region_law ((go_simp; go_at_call 34; (with_reducible refine (rAdd_any m o _ hm h0 h1).mono ?_); rintro e _ ⟨rfl, rfl⟩))
        all_goals go_wp2
        all_goals (refine bodyPost_ret (v := .tuple #[tv (addF m o) b, .bool true]) (by simp [results, Tryd.results12, go_sem, k2, k3]) rfl ⟨?_, by repeat (first | (with_reducible exact hB1) | (with_reducible refine bset ?_ _ _ (by omega) _) | (with_reducible refine Below.drew ?_))⟩; exact ret_tb (tv_eq E.out.1.symm rfl) F.out.symm)
      · have F := hide (nofree_has (m := m) (.inr hK))
        have E := hide (free_no F.out)
        have H := hide hM
        have K := hide hK
        clear hM hK
        go_enter Tryd.func12, Tryd.ntmps12
        go_wp2_with fail
        rw [HE.out]
        (with_reducible refine (rHas_any m o _ hm h0 h1).mono ?_)
        rintro e _ ⟨rfl, rfl⟩
        rw [H.out]
        go_wp2_with fail
        (with_reducible refine (rHas_any b o _ hb h0 h1).mono ?_)
        rintro e _ ⟨rfl, rfl⟩
        rw [K.out]
        go_wp2
        refine bodyPost_ret (v := .tuple #[tv m b, .bool false]) (by simp [results, Tryd.results12, go_sem, k2, k3]) rfl ⟨?_, by repeat (first | (with_reducible exact hB1) | (with_reducible refine bset ?_ _ _ (by omega) _) | (with_reducible refine Below.drew ?_))⟩
        exact ret_tb (tv_eq E.out.1.symm rfl) F.out.symm
    · have F := hide (nofree_has (b := b) (.inl hM))
      have E := hide (free_no F.out)
      have H := hide hM
      clear hM
      go_enter Tryd.func12, Tryd.ntmps12
      go_wp2_with fail
      rw [HE.out]
      (with_reducible refine (rHas_any m o _ hm h0 h1).mono ?_)
      rintro e _ ⟨rfl, rfl⟩
      rw [H.out]
      go_wp2
      refine bodyPost_ret (v := .tuple #[tv m b, .bool false]) (by simp [results, Tryd.results12, go_sem, k2, k3]) rfl ⟨?_, by repeat (first | (with_reducible exact hB1) | (with_reducible refine bset ?_ _ _ (by omega) _) | (with_reducible refine Below.drew ?_))⟩
      exact ret_tb (tv_eq E.out.1.symm rfl) F.out.symm
  · rcases (show o < 1 ∨ (¬ o < 1 ∧ 64 < o) by omega) with q1 | ⟨q1, q2⟩
    · have F := hide (nofree_rng (m := m) (b := b) hr)
      have E := hide (free_no F.out)
      clear hr
      go_enter Tryd.func12, Tryd.ntmps12
      go_wp2
      refine bodyPost_ret (v := .tuple #[tv m b, .bool false]) (by simp [results, Tryd.results12, go_sem]) rfl ⟨ret_tb (tv_eq E.out.1.symm rfl) F.out.symm, ((Below.refl _ _).alloc (Nat.le_refl _) _).alloc (by simp) _⟩
    · have F := hide (nofree_rng (m := m) (b := b) hr)
      have E := hide (free_no F.out)
      clear hr
      go_enter Tryd.func12, Tryd.ntmps12
      go_wp2
      refine bodyPost_ret (v := .tuple #[tv m b, .bool false]) (by simp [results, Tryd.results12, go_sem]) rfl ⟨ret_tb (tv_eq E.out.1.symm rfl) F.out.symm, ((Below.refl _ _).alloc (Nat.le_refl _) _).alloc (by simp) _⟩
set_option maxHeartbeats 4000000 in
theorem rScan_any (m b : Nat) (o : Int) (hm : m < 18446744073709551616) (hb : b < 18446744073709551616) (h0 : -9223372036854775808 ≤ o) (h1 : o ≤ 9223372036854775807) (w : World) :
    Calls Tryd.prog 14 #[tv m b, .int .i64 o] w fun e w' => e = .returned (.tuple #[tv m (scB m b o), .bool (tGrey m b o)]) ∧ Below w.heap.size w w' := by
  obtain ⟨w1, ew, hB1, hS1, k0, k1, k2, k3, f0, f1, f2, f3⟩ := box3 w (.int .u64 m) (.int .u64 b) (.int .u64 0) (.int .u64 0) 28
  have HE := hide ew
  clear ew
  by_cases hF : tOf m b o = 1
  · have H := hide hF
    have E := hide (scan_yes hF)
    clear hF
    go_enter Tryd.func14, Tryd.ntmps14
    go_wp2_with fail
    rw [HE.out]
    (with_reducible refine (rOf_any m b o hm hb h0 h1 _).mono ?_)
    rintro e w2 ⟨rfl, hb2⟩
    have c0 := keepc hb2 k0
    have c1 := keepc hb2 k1
    have r0 := keepc hb2 k2
    have r1 := keepc hb2 k3
    have y0 := keepf hb2 k0 f0
    have y1 := keepf hb2 k1 f1
    have z0 := keepf hb2 k2 f2
    have z1 := keepf hb2 k3 f3
    have hB2 := bcall hB1 hb2
    clear hb2 k0 k1 k2 k3 f0 f1 f2 f3
    rw [H.out]
    go_upto_region 3 with (fail)
    go_region_law ((go_simp; go_at_call 34; (with_reducible refine (rAdd_any b o _ hb h0 h1).mono ?_); rintro e _ ⟨rfl, rfl⟩))
    all_goals go_wp2
    all_goals (refine bodyPost_ret (v := .tuple #[tv m (addF b o), .bool true]) (by simp [results, Tryd.results14, go_sem, r0, r1]) rfl ⟨?_, by repeat (first | (with_reducible exact hB2) | (with_reducible refine bset ?_ _ _ (by omega) _) | (with_reducible refine Below.drew ?_))⟩; exact ret_tb (tv_eq rfl E.out.1.symm) E.out.2.symm)
  · have q : (tOf m b o != 1) = true := by rw [bne_iff_ne]; exact hF
    have E := hide (scan_no hF)
    clear hF
    go_enter Tryd.func14, Tryd.ntmps14
    go_wp2_with fail
    rw [HE.out]
    (with_reducible refine (rOf_any m b o hm hb h0 h1 _).mono ?_)
    rintro e w2 ⟨rfl, hb2⟩
    have c0 := keepc hb2 k0
    have c1 := keepc hb2 k1
    have r0 := keepc hb2 k2
    have r1 := keepc hb2 k3
    have y0 := keepf hb2 k0 f0
    have y1 := keepf hb2 k1 f1
    have z0 := keepf hb2 k2 f2
    have z1 := keepf hb2 k3 f3
    have hB2 := bcall hB1 hb2
    clear hb2 k0 k1 k2 k3 f0 f1 f2 f3
    go_wp2
    refine bodyPost_ret (v := .tuple #[tv m b, .bool false]) (by simp [results, Tryd.results14, go_sem, r0, r1]) rfl ⟨?_, by repeat (first | (with_reducible exact hB2) | (with_reducible refine bset ?_ _ _ (by omega) _) | (with_reducible refine Below.drew ?_))⟩
    exact ret_tb (tv_eq rfl E.out.1.symm) E.out.2.symm
end Go.Proofs.YtpffknlbffnafaaDoor
