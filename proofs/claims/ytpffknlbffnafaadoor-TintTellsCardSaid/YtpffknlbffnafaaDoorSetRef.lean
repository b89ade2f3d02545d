/- Layer set: the document's own answer, function by function: the single objects. -/
import Derived.Test.YtpffknlbffnafaaDoorSetIter
import Derived.Test.YtpffknlbffnafaaDoorSetOf
namespace Go.Proofs.YtpffknlbffnafaaDoor
open Go.RowKit Go.Shelf Go.Proofs

theorem del_none {s : Nat} (hs : s < 18446744073709551616) {o : Int} (h : hasF s o = false) : delF s o = s :=
  set_ext (del_lt hs o) hs fun i hi => by
    rw [testBit_del hs]
    by_cases e : (i : Int) + 1 = o
    · subst e
      rw [has_bit _ _ hi] at h
      rw [h]; rfl
    · rw [decide_eq_false e]; simp
theorem del_sub {s : Nat} (hs : s < 18446744073709551616) (k : Nat) (hk : k < 64) (hb : s.testBit k = true) : delF s ((k : Int) + 1) = s - 2 ^ k := by
  obtain ⟨q, t, hst, ht⟩ : ∃ q t, s = 2 ^ (k + 1) * q + t ∧ t < 2 ^ (k + 1) := ⟨s / 2 ^ (k + 1), s % 2 ^ (k + 1), (Nat.div_add_mod ..).symm, Nat.mod_lt _ (Nat.two_pow_pos _)⟩
  have htb : t.testBit k = true := by
    rw [hst, Nat.testBit_two_pow_mul_add _ ht, if_pos (by omega)] at hb; exact hb
  have hge := Nat.ge_two_pow_of_testBit htb
  have hp : (2 : Nat) ^ (k + 1) = 2 ^ k + 2 ^ k := by rw [Nat.pow_succ]; omega
  obtain ⟨r, rfl⟩ : ∃ r, t = 2 ^ k + r := ⟨t - 2 ^ k, by omega⟩
  have hr : r < 2 ^ k := by omega
  have hr1 : r < 2 ^ (k + 1) := by omega
  have e : s - 2 ^ k = 2 ^ (k + 1) * q + r := by rw [hst]; omega
  apply Nat.eq_of_testBit_eq
  intro i
  rw [testBit_del hs, e, hst, Nat.testBit_two_pow_mul_add _ ht, Nat.testBit_two_pow_mul_add _ hr1]
  by_cases hi : i < k + 1
  · rw [if_pos hi, if_pos hi]
    by_cases hik : i = k
    · subst hik
      rw [Nat.testBit_lt_two_pow hr]; simp
    · rw [Nat.testBit_two_pow_add_gt (by omega), decide_eq_false (by omega)]; simp
  · rw [if_neg hi, if_neg hi, decide_eq_false (by omega)]; simp
theorem bit_div (s i : Nat) : ((s : Int) / 2 ^ i % 2 == 1) = s.testBit i := by
  have e : (s : Int) / 2 ^ i % 2 = ((s / 2 ^ i % 2 : Nat) : Int) := by simp
  rw [e, Nat.testBit_eq_decide_div_mod_eq, Bool.eq_iff_iff, beq_iff_eq, decide_eq_true_eq]
  omega
set_option maxHeartbeats 400000 in
theorem rHas_any (s : Nat) (o : Int) (w : World) (hs : s < 18446744073709551616) (h0 : -9223372036854775808 ≤ o) (h1 : o ≤ 9223372036854775807) :
    Calls Tryd.prog 33 #[.int .u64 s, .int .i64 o] w fun e w' => e = .returned (.bool (hasF s o)) ∧ w' = w := by
  rcases (show o < 1 ∨ (1 ≤ o ∧ o ≤ 64) ∨ (1 ≤ o ∧ 64 < o) by omega) with h | ⟨ha, hb⟩ | ⟨ha, hb⟩
  · have hn := hide (has_no s o (by omega))
    have q : decide (o ≥ 1) = false := by simp; omega
    go_enter Tryd.func33, Tryd.ntmps33
    go_wp2
    go_ret
    exact ⟨ret_bool (by rw [hn.out]), rfl⟩
  · have q : decide (o ≥ 1) = true := by simp; omega
    have q2 : decide (o ≤ 64) = true := by simp; omega
    go_enter Tryd.func33, Tryd.ntmps33
    go_wp2
    go_ret
    refine ⟨ret_bool ?_, rfl⟩
    obtain ⟨i, rfl⟩ : ∃ i : Nat, o = (i : Int) + 1 := ⟨(o - 1).toNat, by omega⟩
    rw [show (((i : Int) + 1).toNat - 1) = i by omega, Int.tmod_eq_emod_of_nonneg (Int.ediv_nonneg (by omega) (by exact Int.le_of_lt (Int.pow_pos (by decide)))), bit_div, has_bit _ _ (by omega)]
  · have hn := hide (has_no s o (by omega))
    have q : decide (o ≥ 1) = true := by simp; omega
    have q2 : decide (o ≤ 64) = false := by simp; omega
    go_enter Tryd.func33, Tryd.ntmps33
    go_wp2
    go_ret
    exact ⟨ret_bool (by rw [hn.out]), rfl⟩
set_option maxHeartbeats 400000 in
theorem rAdd_any (s : Nat) (o : Int) (w : World) (hs : s < 18446744073709551616) (h0 : -9223372036854775808 ≤ o) (h1 : o ≤ 9223372036854775807) :
    Calls Tryd.prog 34 #[.int .u64 s, .int .i64 o] w fun e w' => e = .returned (.int .u64 (addF s o : Nat)) ∧ w' = w := by
  have hz : ¬ (1 ≤ o ∧ o ≤ 64) → addF s o = s := fun h => by unfold addF onlyF; rw [if_neg h]; simp
  rcases (show o < 1 ∨ (1 ≤ o ∧ o ≤ 64) ∨ (1 ≤ o ∧ 64 < o) by omega) with h | ⟨ha, hb⟩ | ⟨ha, hb⟩
  · have hn := hide (hz (by omega))
    clear hz
    have q : decide (o ≥ 1) = false := by simp; omega
    go_enter Tryd.func34, Tryd.ntmps34
    go_wp2
    go_ret
    exact ⟨ret_u64 (by rw [hn.out]), rfl⟩
  · clear hz
    have q : decide (o ≥ 1) = true := by simp; omega
    have q2 : decide (o ≤ 64) = true := by simp; omega
    go_enter Tryd.func34, Tryd.ntmps34
    go_wp2
    go_ret
    refine ⟨ret_u64 ?_, rfl⟩
    have hk : (2 : Nat) ^ (o.toNat - 1) < 18446744073709551616 := by rw [← p64]; exact Nat.pow_lt_pow_right (by decide) (by omega)
    unfold addF onlyF
    rw [if_pos ⟨ha, hb⟩, wrap_pow _ (by omega), bits_or_u64_nat _ _ hs hk, show (o - 1).toNat = o.toNat - 1 by omega]
  · have hn := hide (hz (by omega))
    clear hz
    have q : decide (o ≥ 1) = true := by simp; omega
    have q2 : decide (o ≤ 64) = false := by simp; omega
    go_enter Tryd.func34, Tryd.ntmps34
    go_wp2
    go_ret
    exact ⟨ret_u64 (by rw [hn.out]), rfl⟩
theorem rUnder_any (a b : Nat) (w : World) (ha : a < 18446744073709551616) (hb : b < 18446744073709551616) :
    Calls Tryd.prog 37 #[.int .u64 a, .int .u64 b] w fun e w' => e = .returned (.bool (underF a b)) ∧ w' = w := by
  have hB := Go.Lib.hid (bits_and_u64_nat a b ha hb)
  have hU := hide (under_eq ha hb)
  go_enter Tryd.func37, Tryd.ntmps37
  go_wp2
  go_ret
  refine ⟨ret_bool ?_, rfl⟩
  rw [hB.out, hU.out, Bool.eq_iff_iff, beq_iff_eq, decide_eq_true_eq]
  omega
end Go.Proofs.YtpffknlbffnafaaDoor
