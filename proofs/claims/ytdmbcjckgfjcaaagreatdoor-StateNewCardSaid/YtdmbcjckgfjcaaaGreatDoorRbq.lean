/- Layer set: Of, numbers, Parse. -/
import Derived.Shelf.Strings.BuilderK
import Derived.Test.YtdmbcjckgfjcaaaGreatDoorRbp
namespace Go.Proofs.YtdmbcjckgfjcaaaGreatDoor
open Go.RowKit Go.Shelf Go.Proofs
set_option maxHeartbeats 1000000 in
theorem Of_anySt (v : Value) (l : List Int) (w : World) (hl : Ints w v l) (hr : ∀ o ∈ l, -9223372036854775808 ≤ o ∧ o ≤ 9223372036854775807) :
    Calls Tryz.prog 96 #[v] w fun e w' => e = .returned (.int .u64 (ofF l : Nat)) ∧ w' = w := by
  have hl' := hl
  obtain ⟨A, c, rfl, h1, h2, -⟩ := hl'
  unfold maxLen at h2
  have HL := hide hl
  have HR := hide hr
  clear hl hr
  go_enter Tryz.func96, Tryz.ntmps96
  go_wp2
  go_loop [3, 8] (fun s i => ∃ k : Nat, k ≤ l.length ∧ i = .int .i64 k ∧ s = .int .u64 (ofF (l.take k) : Nat)) (fun _ i => l.length - (Go.RowKit.intOf i).toNat)
  case atStart => exact ⟨0, Nat.zero_le _, rfl, rfl⟩
  case round =>
    obtain ⟨k, hk, rfl, rfl⟩ := hrel
    by_cases hlt : k < l.length
    · obtain ⟨b, off, rfl, -, hc⟩ := ints_at HL.out hlt
      have hb := HR.out _ (List.getElem_mem hlt)
      have HS := hide (ofF_snoc l k hlt)
      have hlo := ofF_lt (l.take k)
      generalize l[k] = o at *
      go_wp2_with (go_at_call 36; refine (Add_any _ _ _ hlo hb.1 hb.2).mono ?_; rintro e w' ⟨rfl, rfl⟩)
      go_round
      case rel => exact ⟨k + 1, by omega, by go_num, by rw [HS.out]⟩
      case measure => simp [Go.RowKit.intOf]; omega
    · go_wp2
      go_ret
      refine ⟨ret_u64 ?_, rfl⟩
      rw [List.take_of_length_le (by omega)]
end Go.Proofs.YtdmbcjckgfjcaaaGreatDoor
