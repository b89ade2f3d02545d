import Derived.Laws.BitsAllLaws
import Derived.Laws.Bits64b
import Derived.Laws.Bits128
import Derived.Lib.Hide
import Derived.Test.YtjbaiibbgplljaaGreatDoorPaa
import Derived.Test.YtjbaiibbgplljaaGreatDoorPab
set_option maxRecDepth 100000
set_option maxHeartbeats 40000000
namespace Go.Proofs.YtjbaiibbgplljaaGreatDoor
open Go.RowKit
theorem ret_u64 {a b : Int} (h : a = b) : Ending.returned (.int .u64 a) = .returned (.int .u64 b) := by rw [h]
theorem beq0 (x : Nat) : (((x : Nat) : Int) == 0) = decide (x = 0) := by rw [Bool.eq_iff_iff, beq_iff_eq, decide_eq_true_eq]; omega
theorem wrap_pow (k : Nat) (h : k < 64) : IntKind.u64.wrap (2 ^ k) = ((2 ^ k : Nat) : Int) := by
 have h1 : (2 : Nat) ^ k < 18446744073709551616 := by rw [← p64]; exact Nat.pow_lt_pow_right (by decide) h
 have e : ((2 : Int) ^ k) = ((2 ^ k : Nat) : Int) := by simp
 rw [IntKind.wrap_u64, e]; generalize 2 ^ k = x at *; omega
theorem only_any (o : Int) (w : World) (h0 : -9223372036854775808 ≤ o) (h1 : o ≤ 9223372036854775807) :
 Calls Tryz.prog 79 #[.int .i64 o] w fun e w' => e = .returned (.int .u64 (onlyF o : Nat)) ∧ w' = w := by
 by_cases h : 1 ≤ o ∧ o ≤ 64
 · obtain ⟨ha, hb⟩ := h
   go_enter Tryz.func79, Tryz.ntmps79
   go_wp2; go_ret
   refine ⟨ret_u64 ?_, rfl⟩; unfold onlyF; rw [if_pos ⟨ha, hb⟩, wrap_pow _ (by omega), show (o - 1).toNat = o.toNat - 1 by omega]
 · have hn := Go.Lib.hid (show onlyF o = 0 by unfold onlyF; rw [if_neg h])
   rcases (show o < 1 ∨ (1 ≤ o ∧ 64 < o) by omega) with h' | ⟨ha, hb⟩
   · go_enter Tryz.func79, Tryz.ntmps79
     go_wp2; go_ret
     exact ⟨ret_u64 (by rw [hn.out]; rfl), rfl⟩
   · have hd : decide (o ≤ 64) = false := by simp; omega
     go_enter Tryz.func79, Tryz.ntmps79
     go_wp2; go_ret
     exact ⟨ret_u64 (by rw [hn.out]; rfl), rfl⟩
theorem Add_any (s : Nat) (o : Int) (w : World) (hs : s < 18446744073709551616) (h0 : -9223372036854775808 ≤ o) (h1 : o ≤ 9223372036854775807) :
 Calls Tryz.prog 45 #[.int .u64 s, .int .i64 o] w fun e w' => e = .returned (.int .u64 (addF s o : Nat)) ∧ w' = w := by
 have hB := Go.Lib.hid (bits_or_u64_nat s (onlyF o) hs (onlyF_lt o)); go_enter Tryz.func45, Tryz.ntmps45
 go_wp2_with fail
 refine (only_any _ _ h0 h1).mono ?_; rintro e w' ⟨rfl, rfl⟩; go_wp2; go_ret
 exact ⟨ret_u64 (by rw [hB.out]; rfl), rfl⟩
theorem Under_any (a b : Nat) (w : World) (ha : a < 18446744073709551616) (hb : b < 18446744073709551616) :
 Calls Tryz.prog 83 #[.int .u64 a, .int .u64 b] w fun e w' => e = .returned (.bool (underF a b)) ∧ w' = w := by
 have hB := Go.Lib.hid (u64_andNot_nat a b ha hb); go_enter Tryz.func83, Tryz.ntmps83
 go_wp2; go_ret
 refine ⟨ret_bool ?_, rfl⟩; rw [hB.out, beq0]; rfl
theorem first_mid (n : Int) (ha : 1 ≤ n) (hb : n ≤ 64) : (18446744073709551615 : Int) / 2 ^ (64 - n).toNat = ((firstF n : Nat) : Int) := by
 obtain ⟨k, hk, hk64⟩ : ∃ k : Nat, (64 - n).toNat = k ∧ k < 64 := ⟨_, rfl, by omega⟩; have hm : (min (max n 0) 64).toNat = 64 - k := by omega
 unfold firstF; rw [hk, hm]; clear hm hk; have : ∀ j : Fin 64, (18446744073709551615 : Int) / 2 ^ j.val = ((2 ^ (64 - j.val) - 1 : Nat) : Int) := by decide +kernel
 exact this ⟨k, hk64⟩
theorem First_any (n : Int) (w : World) (h0 : -9223372036854775808 ≤ n) (h1 : n ≤ 9223372036854775807) :
 Calls Tryz.prog 84 #[.int .i64 n] w fun e w' => e = .returned (.int .u64 (firstF n : Nat)) ∧ w' = w := by
 rcases (show n < 1 ∨ (1 ≤ n ∧ n ≤ 64) ∨ 64 < n by omega) with h | ⟨ha, hb⟩ | h
 · have hn := Go.Lib.hid (show firstF n = 0 by unfold firstF; rw [show (min (max n 0) 64).toNat = 0 by omega])
   go_enter Tryz.func84, Tryz.ntmps84
   go_wp2; go_ret
   exact ⟨ret_u64 (by rw [hn.out]; rfl), rfl⟩
 · go_enter Tryz.func84, Tryz.ntmps84
   go_wp2; go_ret
   refine ⟨ret_u64 ?_, rfl⟩; exact first_mid n ha hb
 · have hn := Go.Lib.hid (show firstF n = 18446744073709551615 by unfold firstF; rw [show (min (max n 0) 64).toNat = 64 by omega])
   go_enter Tryz.func84, Tryz.ntmps84
   go_wp2; go_ret
   refine ⟨ret_u64 (by rw [hn.out]; rfl), rfl⟩
