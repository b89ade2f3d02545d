/- Layer set: the document's own answer: lists, and the first objects. -/
import Derived.Test.YtpffknlbffnafaaDoorSetRef
namespace Go.Proofs.YtpffknlbffnafaaDoor
open Go.RowKit Go.Shelf Go.Proofs

def pobjs (k s : Nat) : List Int := ((List.range k).filter fun i => s.testBit i).map fun (i : Nat) => (i : Int) + 1
theorem pobjs_all (s : Nat) : pobjs 64 s = objs s := rfl
theorem pobjs_yes (k s : Nat) (h : s.testBit k = true) : pobjs (k + 1) s = pobjs k s ++ [(k : Int) + 1] := by
  unfold pobjs; rw [List.range_succ, List.filter_append, List.map_append]; simp [h]
theorem pobjs_no (k s : Nat) (h : s.testBit k = false) : pobjs (k + 1) s = pobjs k s := by
  unfold pobjs; rw [List.range_succ, List.filter_append, List.map_append]; simp [h]
theorem pobjs_len (k s : Nat) : (pobjs k s).length ≤ k := by
  unfold pobjs; rw [List.length_map]
  have := List.length_filter_le (fun i => s.testBit i) (List.range k)
  rwa [List.length_range] at this
theorem first_step (k : Nat) (h : k < 64) : firstF ((k : Int) + 1) = addF (firstF k) ((k : Int) + 1) :=
  set_ext (first_lt _) (add_lt (first_lt _) _) fun i hi => by
    rw [first_bit, testBit_add, first_bit, Bool.eq_iff_iff]
    simp only [Bool.or_eq_true, decide_eq_true_eq]
    omega
theorem first_zero (n : Int) (h : n < 1) : firstF n = 0 := by unfold firstF; rw [show (min (max n 0) 64).toNat = 0 by omega]
theorem first_big (n : Int) (h : 64 ≤ n) : firstF n = firstF 64 := by unfold firstF; rw [show (min (max n 0) 64).toNat = 64 by omega]; rfl
set_option maxHeartbeats 1000000 in
theorem rFirst_any (n : Int) (w : World) (h0 : -9223372036854775808 ≤ n) (h1 : n ≤ 9223372036854775807) :
    Calls Tryd.prog 38 #[.int .i64 n] w fun e w' => e = .returned (.int .u64 (firstF n : Nat)) ∧ w' = w := by
  go_enter Tryd.func38, Tryd.ntmps38
  go_wp2
  go_loop [3, 4] (fun s i => ∃ k : Nat, k ≤ 64 ∧ (k : Int) ≤ max n 0 ∧ i = .int .i64 ((k : Int) + 1) ∧ s = .int .u64 (firstF k : Nat)) (fun _ i => 65 - (Go.RowKit.intOf i).toNat)
  case atStart => exact ⟨0, by omega, by omega, rfl, rfl⟩
  case round =>
    obtain ⟨k, hk, hkn, rfl, rfl⟩ := hrel
    have hlo := first_lt k
    by_cases hlt : (k : Int) + 1 ≤ n ∧ k < 64
    · obtain ⟨hn, hk64⟩ := hlt
      have HS := hide (first_step k hk64)
      have q1 : decide ((k : Int) + 1 ≤ n) = true := decide_eq_true hn
      have q2 : decide ((k : Int) + 1 ≤ 64) = true := decide_eq_true (by omega)
      go_wp2_with (go_at_call 34; refine (rAdd_any _ _ _ hlo (by omega) (by omega)).mono ?_; rintro e w' ⟨rfl, rfl⟩)
      go_round
      case rel => exact ⟨k + 1, by omega, by omega, by go_num, by rw [show (((k + 1 : Nat) : Int)) = (k : Int) + 1 by omega, HS.out]⟩
      case measure => simp [Go.RowKit.intOf]; omega
    · have HF := hide (show firstF k = firstF n by
        by_cases hk64 : k = 64
        · subst hk64; exact (first_big n (by omega)).symm
        · by_cases hn : n < 1
          · rw [first_zero n hn, show k = 0 by omega]; rfl
          · rw [show n = (k : Int) by omega])
      rcases (show n < (k : Int) + 1 ∨ ((k : Int) + 1 ≤ n ∧ k = 64) by omega) with hn | ⟨hn, hk64⟩
      · have q1 : decide ((k : Int) + 1 ≤ n) = false := decide_eq_false (by omega)
        go_wp2
        go_ret
        exact ⟨ret_u64 (by rw [HF.out]), rfl⟩
      · have q1 : decide ((k : Int) + 1 ≤ n) = true := decide_eq_true hn
        have q2 : decide ((k : Int) + 1 ≤ 64) = false := decide_eq_false (by omega)
        clear hk64
        go_wp2
        go_ret
        exact ⟨ret_u64 (by rw [HF.out]), rfl⟩
end Go.Proofs.YtpffknlbffnafaaDoor
