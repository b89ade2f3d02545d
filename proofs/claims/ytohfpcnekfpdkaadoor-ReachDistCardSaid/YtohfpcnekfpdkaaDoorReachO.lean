/- Layer reach: the set of what has been met. -/
import Derived.Test.YtohfpcnekfpdkaaDoorReachM
namespace Go.Proofs.YtohfpcnekfpdkaaDoor
open Go.RowKit

def metS (far : List Int) : Nat → Nat
  | 0 => 0
  | k + 1 => if far.getD k (-1) = -1 then metS far k else addF (metS far k) ((k : Int) + 1)
theorem metS_lt (far : List Int) : ∀ k, metS far k < 18446744073709551616
  | 0 => by unfold metS; decide
  | k + 1 => by unfold metS; split; exact metS_lt far k; exact add_lt (metS_lt far k) _
theorem has_metS (far : List Int) (x : Int) : ∀ k, k ≤ 64 → (hasF (metS far k) x = true ↔ 1 ≤ x ∧ x ≤ k ∧ farA far x ≠ -1)
  | 0, _ => by unfold metS; rw [has_zero]; simp; omega
  | k + 1, hk => by
    have ih := has_metS far x k (by omega)
    have hone : hasF (onlyF ((k : Int) + 1)) x = decide (x = (k : Int) + 1) := by
      by_cases hx : 1 ≤ x ∧ x ≤ 64
      · obtain ⟨i, rfl⟩ : ∃ i : Nat, x = (i : Int) + 1 := ⟨(x - 1).toNat, by omega⟩
        rw [has_bit _ _ (by omega), testBit_only]
        congr 1; apply propext; omega
      · rw [has_no _ _ hx]; symm; rw [decide_eq_false_iff_not]; omega
    unfold metS
    split
    · rename_i h
      rw [ih]
      constructor
      · rintro ⟨a, b, c⟩; exact ⟨a, by omega, c⟩
      · rintro ⟨a, b, c⟩
        refine ⟨a, ?_, c⟩
        apply Decidable.byContradiction
        intro hne
        obtain rfl : x = (k : Int) + 1 := by omega
        apply c
        unfold farA
        rw [show ((k : Int) + 1 - 1).toNat = k by omega]; exact h
    · rename_i h
      unfold addF
      rw [has_or, Bool.or_eq_true, ih, hone, decide_eq_true_iff]
      constructor
      · rintro (⟨a, b, c⟩ | rfl)
        · exact ⟨a, by omega, c⟩
        · refine ⟨by omega, by omega, ?_⟩
          unfold farA
          rw [show ((k : Int) + 1 - 1).toNat = k by omega]; exact h
      · rintro ⟨a, b, c⟩
        by_cases e : x = (k : Int) + 1
        · exact .inr e
        · exact .inl ⟨a, by omega, c⟩
theorem far_index (far : List Int) (k : Nat) (d : Int) (h : far[k]? = some d) (hk : k < 64) (w : World) : (Instr.index 96 (.agg (fa far)) (.int .i64 k)).run Tryd.prog w = .ok (.int .i64 d) w := by
  have hc : (fa far)[k]? = some (.int .i64 d) := by simp [h]
  have h0 : (0 : Int) ≤ k ∧ (k : Int) < (64 : Nat) := by omega
  simp [Instr.index, run_underlying Tryd.underlying96, asIntOf, part, Tryd.isAgg3, Tryd.sizeOf3, hk, h]
set_option maxRecDepth 100000 in
set_option maxHeartbeats 2000000 in
theorem metset_any (far : List Int) (hl : far.length = 64) (w : World) :
    Calls Tryd.prog 62 #[.agg (fa far)] w fun e w' => e = .returned (.int .u64 (metS far 64 : Nat)) ∧ Below w.heap.size w w' := by
  obtain ⟨w1, ew⟩ : ∃ w1, w.alloc (.cells (fa far) 96) = w1 := ⟨_, rfl⟩
  have hB : Below w.heap.size w w1 := by rw [← ew]; exact bal _ _
  have hF : FarAt w1 w.heap.size far := by rw [← ew]; exact heap_alloc_new w _
  have HF := hide hF
  have HE := hide ew
  clear ew hF
  go_enter Tryd.func62, Tryd.ntmps62
  go_wp2_with (rw [HE.out]; refine wpList_load_row rfl 96 (.tmp 1) rfl w.heap.size rfl _ _ _ _ HF.out Tryd.underlying96 rfl (met_info' _ hl) ?_)
  go_loopw [3, 7] (fun s i wr => ∃ k : Nat, k ≤ 64 ∧ i = .int .i64 k ∧ s = .int .u64 (metS far k : Nat) ∧ Below w.heap.size w wr) (fun _ i _ => 64 - (Go.RowKit.intOf i).toNat)
  case atStart => exact ⟨0, by omega, rfl, rfl, hB⟩
  case round =>
    obtain ⟨k, hk, rfl, rfl, hb⟩ := hrel
    by_cases hlt : k < 64
    · obtain ⟨d, hd⟩ : ∃ d, far[k]? = some d := ⟨_, List.getElem?_eq_getElem (by omega)⟩
      have hix : (fa far)[k]? = some (.int .i64 d) := by simp [hd]
      have hgd : far.getD k (-1) = d := by rw [List.getD_eq_getElem?_getD, hd]; rfl
      have hidx := far_index far k d hd hlt
      have HD := hide hgd
      have HX := hide hd
      have hml := metS_lt far k
      clear hd hgd hix
      by_cases hd : d = -1
      · subst hd
        go_wp2
        go_roundw
        case rel => exact ⟨k + 1, by omega, by go_num, by rw [metS, if_pos HD.out], hb⟩
        case measure => simp [Go.RowKit.intOf]; omega
      · have hdb : (d != -1) = true := by simpa using hd
        go_wp2_with fail
        refine (Add_any _ _ _ hml (by omega) (by omega)).mono ?_
        rintro e w2 ⟨rfl, rfl⟩
        go_wp2
        go_roundw
        case rel => exact ⟨k + 1, by omega, by go_num, by rw [metS, if_neg (by rw [HD.out]; exact hd)], hb⟩
        case measure => simp [Go.RowKit.intOf]; omega
    · obtain rfl : k = 64 := by omega
      go_wp2
      go_ret
      exact ⟨rfl, hb⟩
end Go.Proofs.YtohfpcnekfpdkaaDoor
