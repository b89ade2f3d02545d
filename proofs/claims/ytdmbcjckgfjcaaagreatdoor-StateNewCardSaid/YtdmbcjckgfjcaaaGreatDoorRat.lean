/- Layer set: the functions on single objects, and on whole sets, of package set. -/
import Derived.Laws.BitsAllLaws
import Derived.Laws.Bits64b
import Derived.Laws.Bits128
import Derived.Lib.Hide
import Derived.Test.YtdmbcjckgfjcaaaGreatDoorRaa
import Derived.Test.YtdmbcjckgfjcaaaGreatDoorRab
namespace Go.Proofs.YtdmbcjckgfjcaaaGreatDoor
open Go.RowKit
theorem ret_u64 {a b : Int} (h : a = b) : Ending.returned (.int .u64 a) = .returned (.int .u64 b) := by rw [h]
theorem beq0 (x : Nat) : (((x : Nat) : Int) == 0) = decide (x = 0) := by rw [Bool.eq_iff_iff, beq_iff_eq, decide_eq_true_eq]; omega
theorem wrap_pow (k : Nat) (h : k < 64) : IntKind.u64.wrap (2 ^ k) = ((2 ^ k : Nat) : Int) := by
  have h1 : (2 : Nat) ^ k < 18446744073709551616 := by rw [← p64]; exact Nat.pow_lt_pow_right (by decide) h
  have e : ((2 : Int) ^ k) = ((2 ^ k : Nat) : Int) := by simp
  rw [IntKind.wrap_u64, e]
  generalize 2 ^ k = x at *
  omega
set_option maxHeartbeats 400000 in
theorem only_any (o : Int) (w : World) (h0 : -9223372036854775808 ≤ o) (h1 : o ≤ 9223372036854775807) :
    Calls Tryz.prog 100 #[.int .i64 o] w fun e w' => e = .returned (.int .u64 (onlyF o : Nat)) ∧ w' = w := by
  by_cases h : 1 ≤ o ∧ o ≤ 64
  · obtain ⟨ha, hb⟩ := h
    go_enter Tryz.func100, Tryz.ntmps100
    go_wp2
    go_ret
    refine ⟨ret_u64 ?_, rfl⟩
    unfold onlyF
    rw [if_pos ⟨ha, hb⟩, wrap_pow _ (by omega), show (o - 1).toNat = o.toNat - 1 by omega]
  · have hn := Go.Lib.hid (show onlyF o = 0 by unfold onlyF; rw [if_neg h])
    rcases (show o < 1 ∨ (1 ≤ o ∧ 64 < o) by omega) with h' | ⟨ha, hb⟩
    · go_enter Tryz.func100, Tryz.ntmps100
      go_wp2
      go_ret
      exact ⟨ret_u64 (by rw [hn.out]; rfl), rfl⟩
    · have hd : decide (o ≤ 64) = false := by simp; omega
      go_enter Tryz.func100, Tryz.ntmps100
      go_wp2
      go_ret
      exact ⟨ret_u64 (by rw [hn.out]; rfl), rfl⟩
theorem Add_any (s : Nat) (o : Int) (w : World) (hs : s < 18446744073709551616) (h0 : -9223372036854775808 ≤ o) (h1 : o ≤ 9223372036854775807) :
    Calls Tryz.prog 36 #[.int .u64 s, .int .i64 o] w fun e w' => e = .returned (.int .u64 (addF s o : Nat)) ∧ w' = w := by
  have hB := Go.Lib.hid (bits_or_u64_nat s (onlyF o) hs (onlyF_lt o))
  go_enter Tryz.func36, Tryz.ntmps36
  go_wp2_with fail
  refine (only_any _ _ h0 h1).mono ?_
  rintro e w' ⟨rfl, rfl⟩
  go_wp2
  go_ret
  exact ⟨ret_u64 (by rw [hB.out]; rfl), rfl⟩
theorem Under_any (a b : Nat) (w : World) (ha : a < 18446744073709551616) (hb : b < 18446744073709551616) :
    Calls Tryz.prog 146 #[.int .u64 a, .int .u64 b] w fun e w' => e = .returned (.bool (underF a b)) ∧ w' = w := by
  have hB := Go.Lib.hid (u64_andNot_nat a b ha hb)
  go_enter Tryz.func146, Tryz.ntmps146
  go_wp2
  go_ret
  refine ⟨ret_bool ?_, rfl⟩
  rw [hB.out, beq0]
  rfl
theorem first_mid (n : Int) (ha : 1 ≤ n) (hb : n ≤ 64) : (18446744073709551615 : Int) / 2 ^ (64 - n).toNat = ((firstF n : Nat) : Int) := by
  obtain ⟨k, hk, hk64⟩ : ∃ k : Nat, (64 - n).toNat = k ∧ k < 64 := ⟨_, rfl, by omega⟩
  have hm : (min (max n 0) 64).toNat = 64 - k := by omega
  unfold firstF
  rw [hk, hm]
  clear hm hk
  have : ∀ j : Fin 64, (18446744073709551615 : Int) / 2 ^ j.val = ((2 ^ (64 - j.val) - 1 : Nat) : Int) := by decide +kernel
  exact this ⟨k, hk64⟩
theorem First_any (n : Int) (w : World) (h0 : -9223372036854775808 ≤ n) (h1 : n ≤ 9223372036854775807) :
    Calls Tryz.prog 31 #[.int .i64 n] w fun e w' => e = .returned (.int .u64 (firstF n : Nat)) ∧ w' = w := by
  rcases (show n < 1 ∨ (1 ≤ n ∧ n ≤ 64) ∨ 64 < n by omega) with h | ⟨ha, hb⟩ | h
  · have hn := Go.Lib.hid (show firstF n = 0 by unfold firstF; rw [show (min (max n 0) 64).toNat = 0 by omega])
    go_enter Tryz.func31, Tryz.ntmps31
    go_wp2
    go_ret
    exact ⟨ret_u64 (by rw [hn.out]; rfl), rfl⟩
  · go_enter Tryz.func31, Tryz.ntmps31
    go_wp2
    go_ret
    refine ⟨ret_u64 ?_, rfl⟩
    exact first_mid n ha hb
  · have hn := Go.Lib.hid (show firstF n = 18446744073709551615 by unfold firstF; rw [show (min (max n 0) 64).toNat = 64 by omega])
    go_enter Tryz.func31, Tryz.ntmps31
    go_wp2
    go_ret
    refine ⟨ret_u64 (by rw [hn.out]; rfl), rfl⟩
theorem and_lit (a : Nat) (k : Int) (m : Nat) (hk : k = (m : Int)) (ha : a < 18446744073709551616) (hm : m < 18446744073709551616) : bits .and .u64 (a : Int) k = ((a &&& m : Nat) : Int) := by
  rw [hk]; exact bits_and_u64_nat a m ha hm
theorem wrap_nat (a : Nat) (ha : a < 18446744073709551616) : IntKind.u64.wrap ((a : Nat) : Int) = (a : Int) := by rw [IntKind.wrap_u64]; omega
theorem nd2 (a : Nat) : ((a : Int) / 2) = ((a / 2 : Nat) : Int) := by omega
theorem nd4 (a : Nat) : ((a : Int) / 4) = ((a / 4 : Nat) : Int) := by omega
theorem nd16 (a : Nat) : ((a : Int) / 16 + (a : Int)) = ((a / 16 + a : Nat) : Int) := by omega
theorem nd256 (a : Nat) : ((a : Int) + (a : Int) / 256) = ((a + a / 256 : Nat) : Int) := by omega
theorem nd65536 (a : Nat) : ((a : Int) + (a : Int) / 65536) = ((a + a / 65536 : Nat) : Int) := by omega
theorem nd32 (a : Nat) : ((a : Int) + (a : Int) / 4294967296) = ((a + a / 4294967296 : Nat) : Int) := by omega
theorem div_lt2 {a : Nat} (h : a < 18446744073709551616) : a / 2 < 18446744073709551616 := by omega
theorem div_lt4 {a : Nat} (h : a < 18446744073709551616) : a / 4 < 18446744073709551616 := by omega
theorem fin_wrap (u : Nat) : wrap64 (u : Int) % 128 = ((u % 128 : Nat) : Int) := by unfold wrap64; omega
theorem pop_raw (s : Nat) (hs : s < 18446744073709551616) (p1 p2 : Int) (h1 : p1 = IntKind.u64.wrap (bits .and .u64 ((s : Int) / 2) 6148914691236517205 + bits .and .u64 (s : Int) 6148914691236517205))
    (h2 : p2 = IntKind.u64.wrap (bits .and .u64 (p1 / 4) 3689348814741910323 + bits .and .u64 p1 3689348814741910323)) (p3 Y Z U : Int) (h3 : p3 = bits .and .u64 (IntKind.u64.wrap (p2 / 16 + p2)) 1085102592571150095)
    (hY : Y = IntKind.u64.wrap (p3 + p3 / 256)) (hZ : Z = IntKind.u64.wrap (Y + Y / 65536)) (hU : U = IntKind.u64.wrap (Z + Z / 4294967296)) : bits .and .i64 (wrap64 U) 127 = ((cntF s : Nat) : Int) := by
  obtain ⟨q0, q1, q2, q3, q4, q5, q6, q7⟩ := pop_all s hs _ _ _ rfl rfl rfl
  have e1 : p1 = ((pop1 s : Nat) : Int) := by
    rw [h1, nd2 s, and_lit (s / 2) 6148914691236517205 6148914691236517205 rfl (div_lt2 hs) (by decide), and_lit s 6148914691236517205 6148914691236517205 rfl hs (by decide), ← Int.natCast_add]
    exact wrap_nat _ q1
  have e2 : p2 = ((pop2 s : Nat) : Int) := by
    rw [h2, e1, nd4 (pop1 s), and_lit (pop1 s / 4) 3689348814741910323 3689348814741910323 rfl (div_lt4 q1) (by decide), and_lit (pop1 s) 3689348814741910323 3689348814741910323 rfl q1 (by decide), ← Int.natCast_add]
    exact wrap_nat _ q2
  have e3 : p3 = ((pop3 s : Nat) : Int) := by
    rw [h3, e2, nd16 (pop2 s), wrap_nat _ q3, and_lit _ 1085102592571150095 1085102592571150095 rfl q3 (by decide)]
    rfl
  have eY : Y = ((pop3 s + pop3 s / 256 : Nat) : Int) := by
    rw [hY, e3, nd256 (pop3 s)]; exact wrap_nat _ q5
  generalize pop3 s + pop3 s / 256 = y at *
  have eZ : Z = ((y + y / 65536 : Nat) : Int) := by
    rw [hZ, eY, nd65536 y]; exact wrap_nat _ q6
  generalize y + y / 65536 = z at *
  have eU : U = ((z + z / 4294967296 : Nat) : Int) := by
    rw [hU, eZ, nd32 z]; exact wrap_nat _ q7
  generalize z + z / 4294967296 = u at *
  rw [eU, i64_and127, ← q0]
  exact fin_wrap u
set_option maxRecDepth 100000 in
theorem Count_any (s : Nat) (w : World) (hs : s < 18446744073709551616) :
    Calls Tryz.prog 33 #[.int .u64 s] w fun e w' => e = .returned (.int .i64 (cntF s : Nat)) ∧ w' = w := by
  go_enter Tryz.func33, Tryz.ntmps33
  go_wp2
  go_ret
  exact ⟨ret_int (pop_raw s hs _ _ rfl rfl _ _ _ _ rfl rfl rfl rfl), rfl⟩
end Go.Proofs.YtdmbcjckgfjcaaaGreatDoor
