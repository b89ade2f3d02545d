/- Layer tint: the functions on one object, and on the whole. -/
import Derived.Test.YtpffknlbffnafaaDoorTintP
import Derived.Test.YtpffknlbffnafaaDoorSetScal
import Derived.Laws.StructEq
import Derived.Deep.QuietTactic
import Derived.BigQuiet
import Derived.Deep.RegionLaw
namespace Go.Proofs.YtpffknlbffnafaaDoor
open Go.RowKit

abbrev tv (m b : Nat) : Value := .agg #[.int .u64 m, .int .u64 b]
theorem bal (w : World) (o : Obj) : Below w.heap.size w (w.alloc o) := (Below.refl _ _).alloc (Nat.le_refl _) o
theorem guardT : Tryd.prog.eqGuardType Tryd.prog.depth 25 = false := by kernel_rfl
theorem beq_nat (a b : Nat) : (((a : Nat) : Int) == ((b : Nat) : Int)) = decide (a = b) := by rw [Bool.eq_iff_iff, beq_iff_eq, decide_eq_true_eq]; omega
theorem Of_any (m b : Nat) (o : Int) (hm : m < 18446744073709551616) (hb : b < 18446744073709551616) (h0 : -9223372036854775808 ≤ o) (h1 : o ≤ 9223372036854775807) (w : World) :
    Calls Tryd.prog 21 #[tv m b, .int .i64 o] w fun e w' => e = .returned (.int .i64 (tOf m b o)) ∧ Below w.heap.size w w' := by
  cases hM : hasF m o
  · have H := hide hM
    have E := hide (tOf_no m b o hM)
    clear hM
    go_enter Tryd.func21, Tryd.ntmps21
    go_wp2_with fail
    (with_reducible refine (Has_any m o _ hm h0 h1).mono ?_)
    rintro e _ ⟨rfl, rfl⟩
    rw [H.out]
    go_wp2
    go_ret
    exact ⟨ret_int E.out.symm, bal _ _⟩
  · cases hB : hasF b o
    · have H := hide hM
      have K := hide hB
      have E := hide (tOf_grey m b o hM hB)
      clear hM hB
      go_enter Tryd.func21, Tryd.ntmps21
      go_wp2_with fail
      (with_reducible refine (Has_any m o _ hm h0 h1).mono ?_)
      rintro e _ ⟨rfl, rfl⟩
      rw [H.out]
      go_wp2_with fail
      (with_reducible refine (Has_any b o _ hb h0 h1).mono ?_)
      rintro e _ ⟨rfl, rfl⟩
      rw [K.out]
      go_wp2
      go_ret
      exact ⟨ret_int E.out.symm, bal _ _⟩
    · have H := hide hM
      have K := hide hB
      have E := hide (tOf_black m b o hM hB)
      clear hM hB
      go_enter Tryd.func21, Tryd.ntmps21
      go_wp2_with fail
      (with_reducible refine (Has_any m o _ hm h0 h1).mono ?_)
      rintro e _ ⟨rfl, rfl⟩
      rw [H.out]
      go_wp2_with fail
      (with_reducible refine (Has_any b o _ hb h0 h1).mono ?_)
      rintro e _ ⟨rfl, rfl⟩
      rw [K.out]
      go_wp2
      go_ret
      exact ⟨ret_int E.out.symm, bal _ _⟩
theorem Greys_any (m b : Nat) (hm : m < 18446744073709551616) (hb : b < 18446744073709551616) (w : World) :
    Calls Tryd.prog 23 #[tv m b] w fun e w' => e = .returned (.int .u64 (tGreys m b : Nat)) ∧ Below w.heap.size w w' := by
  have hB := hide (u64_andNot_nat m b hm hb)
  go_enter Tryd.func23, Tryd.ntmps23
  go_wp2
  go_ret
  exact ⟨ret_u64 (by rw [hB.out]; rfl), bal _ _⟩
theorem free_and (m b : Nat) (o : Int) : tFree m b o = (hasF (firstF 64) o && !hasF (m ||| b) o) := by
  unfold tFree
  rw [has_first, has_or, Bool.not_or]
  congr 1
  rw [decide_eq_decide]; omega
theorem or_lt' {a b : Nat} (ha : a < 18446744073709551616) (hb : b < 18446744073709551616) : a ||| b < 18446744073709551616 := by
  rw [← p64] at *; exact Nat.or_lt_two_pow ha hb
theorem untouched_any (m b : Nat) (o : Int) (hm : m < 18446744073709551616) (hb : b < 18446744073709551616) (h0 : -9223372036854775808 ≤ o) (h1 : o ≤ 9223372036854775807) (w : World) :
    Calls Tryd.prog 31 #[tv m b, .int .i64 o] w fun e w' => e = .returned (.bool (tFree m b o)) ∧ Below w.heap.size w w' := by
  have E := hide (free_and m b o)
  have hB := hide (bits_or_u64_nat m b hm hb)
  have lo := or_lt' hm hb
  cases hF : hasF (firstF 64) o
  · have H := hide hF
    clear hF
    go_enter Tryd.func31, Tryd.ntmps31
    go_wp2_with fail
    (with_reducible refine (First_any _ _ (by decide) (by decide)).mono ?_)
    rintro e _ ⟨rfl, rfl⟩
    go_wp2_with fail
    (with_reducible refine (Has_any _ o _ (first_lt _) h0 h1).mono ?_)
    rintro e _ ⟨rfl, rfl⟩
    rw [H.out]
    go_wp2
    go_ret
    exact ⟨ret_bool (by rw [E.out, H.out]; rfl), bal _ _⟩
  · have H := hide hF
    clear hF
    go_enter Tryd.func31, Tryd.ntmps31
    go_wp2_with fail
    (with_reducible refine (First_any _ _ (by decide) (by decide)).mono ?_)
    rintro e _ ⟨rfl, rfl⟩
    go_wp2_with fail
    (with_reducible refine (Has_any _ o _ (first_lt _) h0 h1).mono ?_)
    rintro e _ ⟨rfl, rfl⟩
    rw [H.out]
    go_wp2_with fail
    rw [hB.out]
    (with_reducible refine (Has_any _ o _ lo h0 h1).mono ?_)
    rintro e _ ⟨rfl, rfl⟩
    go_wp2
    go_ret
    exact ⟨ret_bool (by rw [E.out, H.out]; rfl), bal _ _⟩
set_option maxHeartbeats 4000000 in
theorem Right_any (m b : Nat) (o : Int) (hm : m < 18446744073709551616) (hb : b < 18446744073709551616) (h0 : -9223372036854775808 ≤ o) (h1 : o ≤ 9223372036854775807) (w : World) :
    Calls Tryd.prog 19 #[tv m b, .int .i64 o] w fun e w' => e = .returned (.bool (tRight m b o)) ∧ Below w.heap.size w w' := by
  cases hU : underF b m
  · have E := hide (show tRight m b o = false by unfold tRight; rw [hU]; rfl)
    go_enter Tryd.func19, Tryd.ntmps19
    go_wp2_with fail
    go_quiet (first | (go_at_call 28; first | exact Calls.quiet_of_same (Under_any b m _ hb hm) | exact Calls.quiet_of_same (Under_any m (firstF o) _ hm (first_lt _))) | (go_at_call 36; exact Calls.quiet_of_same (First_any o _ h0 h1)))
    (try rw [hU])
    go_wp2
    go_ret
    exact ⟨ret_bool E.out.symm, bdrewN (bal _ _) _⟩
  · have E := hide (show tRight m b o = underF m (firstF o) by unfold tRight; rw [hU]; rfl)
    go_enter Tryd.func19, Tryd.ntmps19
    go_wp2_with fail
    go_quiet (first | (go_at_call 28; first | exact Calls.quiet_of_same (Under_any b m _ hb hm) | exact Calls.quiet_of_same (Under_any m (firstF o) _ hm (first_lt _))) | (go_at_call 36; exact Calls.quiet_of_same (First_any o _ h0 h1)))
    (try rw [hU])
    go_wp2
    go_ret
    exact ⟨ret_bool E.out.symm, bdrewN (bal _ _) _⟩
end Go.Proofs.YtpffknlbffnafaaDoor
