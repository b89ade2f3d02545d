/- Layer bag: the set of a bag. -/
import Derived.Test.YtdmbcjckgfjcaaaGreatDoorRbf
import Derived.Test.YtdmbcjckgfjcaaaGreatDoorRat
namespace Go.Proofs.YtdmbcjckgfjcaaaGreatDoor
open Go.RowKit
set_option maxHeartbeats 1000000 in
theorem Of_ints (v : Value) (l : List Int) (w : World) (hl : Ints w v l) (hr : AllK l) :
    Calls Tryz.prog 96 #[v] w fun e w' => e = .returned (.int .u64 (ofF l : Nat)) ∧ w' = w := by
  obtain ⟨A, c, rfl, h1, h2⟩ := sl_form hl
  have HL := hide hl
  have HR := hide hr
  clear hl hr
  go_enter Tryz.func96, Tryz.ntmps96
  go_wp2
  go_loop [3, 8] (fun s i => ∃ k : Nat, k ≤ l.length ∧ i = .int .i64 k ∧ s = .int .u64 (ofF (l.take k) : Nat)) (fun _ i => l.length - (Go.RowKit.intOf i).toNat)
  case atStart => exact ⟨0, Nat.zero_le _, rfl, rfl⟩
  case round =>
    obtain ⟨k, hk, rfl, rfl⟩ := hrel
    by_cases hlt : k < l.length
    · obtain ⟨b, off, rfl, -, hc⟩ := ints_at HL.out hlt
      have hb := HR.out _ (List.getElem_mem hlt)
      have HS := hide (ofF_snoc l k hlt)
      have hlo := ofF_lt (l.take k)
      generalize l[k] = o at *
      go_wp2_with (go_at_call 36; refine (Add_any _ _ _ hlo hb.1 hb.2).mono ?_; rintro e w' ⟨rfl, rfl⟩)
      go_round
      case rel => exact ⟨k + 1, by omega, by go_num, by rw [HS.out]⟩
      case measure => simp [Go.RowKit.intOf]; omega
    · go_wp2
      go_ret
      refine ⟨ret_u64 ?_, rfl⟩
      rw [List.take_of_length_le (by omega)]
theorem bOnce_any (v : Value) (b : List Int) (w : World) (h : Ints w v b) (hk : AllK b) :
    Calls Tryz.prog 28 #[v] w fun e w' => e = .returned (.tuple #[.int .u64 (onceV b : Nat), .bool (onceB b)]) ∧ w' = w := by
  obtain ⟨A, c, rfl, h1, h2⟩ := sl_form h
  have HL := hide h
  have HK := hide hk
  have hc := once_cnt b
  have hlt := ofF_lt b
  clear h hk
  by_cases ho : cntF (ofF b) = b.length
  · have q : (((cntF (ofF b) : Nat) : Int) != (b.length : Int)) = false := by rw [bne_eq_false_iff_eq]; omega
    have HB := hide (show onceB b = true by rw [hc]; exact decide_eq_true ho)
    have HV := hide (show onceV b = ofF b by unfold onceV; rw [HB.out]; rfl)
    clear ho hc
    go_enter Tryz.func28, Tryz.ntmps28
    go_wp2_with (first
      | (go_at_call 96; (with_reducible refine (Of_ints _ b _ HL.out HK.out).mono ?_); rintro e w' ⟨rfl, rfl⟩)
      | (go_at_call 33; (with_reducible refine (Count_any _ _ hlt).mono ?_); rintro e w' ⟨rfl, rfl⟩))
    go_ret2
    exact ⟨by rw [HB.out, HV.out]; rfl, rfl⟩
  · have q : (((cntF (ofF b) : Nat) : Int) != (b.length : Int)) = true := by rw [bne_iff_ne]; omega
    have HB := hide (show onceB b = false by rw [hc]; exact decide_eq_false ho)
    have HV := hide (show onceV b = 0 by unfold onceV; rw [HB.out]; rfl)
    clear ho hc
    go_enter Tryz.func28, Tryz.ntmps28
    go_wp2_with (first
      | (go_at_call 96; (with_reducible refine (Of_ints _ b _ HL.out HK.out).mono ?_); rintro e w' ⟨rfl, rfl⟩)
      | (go_at_call 33; (with_reducible refine (Count_any _ _ hlt).mono ?_); rintro e w' ⟨rfl, rfl⟩))
    go_ret2
    exact ⟨by rw [HB.out, HV.out]; rfl, rfl⟩
end Go.Proofs.YtdmbcjckgfjcaaaGreatDoor
