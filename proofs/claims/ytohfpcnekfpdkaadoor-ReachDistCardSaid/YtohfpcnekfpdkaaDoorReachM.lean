/- Layer reach: what has been met: an array, by value. -/
import Derived.Test.YtohfpcnekfpdkaaDoorReachP
import Derived.Test.YtohfpcnekfpdkaaDoorHeapScal
import Derived.Test.YtohfpcnekfpdkaaDoorSetScal
import Derived.Test.YtohfpcnekfpdkaaDoorArr
namespace Go.Proofs.YtohfpcnekfpdkaaDoor
open Go.RowKit

theorem count_any (n : Int) (v : Value) (ls : Rws) (w : World) (h : Grid w v ls) :
    Calls Tryd.prog 58 #[hv n v] w fun e w' => e = .returned (.int .i64 (min (ls.length : Int) 64)) ∧ Below w.heap.size w w' := by
  obtain ⟨A, c, rfl, h1, h2⟩ := h.form
  unfold maxLen at h2
  clear h
  go_enter Tryd.func58, Tryd.ntmps58
  go_wp2
  all_goals
    go_ret
    exact ⟨ret_int (by omega), bal _ _⟩
theorem every_any (o : Int) (w : World) : Calls Tryd.prog 56 #[.int .i64 o] w fun e w' => e = .returned (.bool true) ∧ w' = w := by
  go_enter Tryd.func56, Tryd.ntmps56
  go_wp2
  go_ret
  exact ⟨rfl, rfl⟩
theorem Via1_any (o : Int) (a b : Nat) (Ba Bb : Nat) (w : World) (ha : a < 18446744073709551616) (hb : b < 18446744073709551616) (h0 : -9223372036854775808 ≤ o) (h1 : o ≤ 9223372036854775807)
    (ca : w.cell? ⟨Ba, 0, none⟩ = some (.int .u64 a)) (cb : w.cell? ⟨Bb, 0, none⟩ = some (.int .u64 b)) :
    Calls Tryd.prog 63 #[.int .i64 o, .pointer (some ⟨Ba, 0, none⟩), .pointer (some ⟨Bb, 0, none⟩)] w fun e w' => e = .returned (.bool (hasF (a ||| b) o)) ∧ w' = w := by
  rw [has_or]
  go_enter Tryd.func63, Tryd.ntmps63
  cases hA : hasF a o with
  | true =>
    go_wp2_with fail
    refine (Has_any _ _ _ ha h0 h1).mono ?_
    rintro e w' ⟨rfl, rfl⟩
    rw [hA]
    go_wp2
    go_ret
    exact ⟨rfl, rfl⟩
  | false =>
    go_wp2_with fail
    refine (Has_any _ _ _ ha h0 h1).mono ?_
    rintro e w' ⟨rfl, rfl⟩
    rw [hA]
    go_wp2_with fail
    refine (Has_any _ _ _ hb h0 h1).mono ?_
    rintro e w' ⟨rfl, rfl⟩
    go_wp2
    go_ret
    exact ⟨ret_bool (by simp), rfl⟩
/-- what has been met, as cells -/
abbrev fa (far : List Int) : Array Value := (far.map (Value.int .i64)).toArray
theorem fa_size (far : List Int) : (fa far).size = far.length := by simp
theorem fa_one (far : List Int) : (fa far).all (·.oneCell') = true := by
  rw [Array.all_eq_true_iff_forall_mem]
  intro v hv
  simp at hv
  obtain ⟨a, _, rfl⟩ := hv
  rfl
/-- block b has what has been met -/
abbrev FarAt (w : World) (b : Nat) (far : List Int) : Prop := w.heap[b]? = some (.cells (fa far) 96 (0, 0))
theorem far_cell {w : World} {b : Nat} {far : List Int} (h : FarAt w b far) (k : Nat) (hk : k < far.length) : w.cell? ⟨b, k, none⟩ = some (.int .i64 far[k]) := by
  rw [cell_of_row _ _ _ _ _ _ h]
  simp [hk]
theorem far_free {w : World} {b : Nat} {far : List Int} (h : FarAt w b far) (k : Nat) : w.frozen? ⟨b, k, none⟩ = false := frozen_of_row _ _ _ _ _ h
theorem far_set {w : World} {b : Nat} {far : List Int} (h : FarAt w b far) (k : Nat) (d : Int) : FarAt (w.setCell ⟨b, k, none⟩ (.int .i64 d)) b (far.set k d) := by
  show _ = _
  rw [heap_setCell_same _ _ _ _ _ _ h]
  congr 2
  simp [List.map_set]
theorem met_info : (Tryd.prog.info? 96).map (·.size) = some 64 := by kernel_rfl
theorem met_info' (far : List Int) (h : far.length = 64) : (Tryd.prog.info? 96).map (·.size) = some (fa far).size := by rw [fa_size, h]; exact met_info
def nomet (k : Nat) : List Int := List.replicate k (-1) ++ List.replicate (64 - k) 0
theorem nomet_len (k : Nat) (h : k ≤ 64) : (nomet k).length = 64 := by unfold nomet; simp; omega
theorem nomet_set (k : Nat) (h : k < 64) : (nomet k).set k (-1) = nomet (k + 1) := by
  unfold nomet
  rw [List.set_append_right _ _ (by simp), List.length_replicate, Nat.sub_self, show 64 - k = (64 - (k + 1)) + 1 by omega, List.replicate_succ, List.set_cons_zero, List.replicate_succ' (n := k), List.append_assoc]; rfl
set_option maxRecDepth 100000 in
set_option maxHeartbeats 2000000 in
theorem nothingMet_any (w : World) : Calls Tryd.prog 71 #[] w fun e w' => e = .returned (.agg (fa (List.replicate 64 (-1)))) ∧ Below w.heap.size w w' := by
  obtain ⟨w1, ew, b0, b1, hB, hS⟩ := two_new w #[.int .i64 0, .int .i64 0, .int .i64 0, .int .i64 0, .int .i64 0, .int .i64 0, .int .i64 0, .int .i64 0, .int .i64 0, .int .i64 0, .int .i64 0, .int .i64 0, .int .i64 0, .int .i64 0, .int .i64 0, .int .i64 0, .int .i64 0, .int .i64 0, .int .i64 0, .int .i64 0, .int .i64 0, .int .i64 0, .int .i64 0, .int .i64 0, .int .i64 0, .int .i64 0, .int .i64 0, .int .i64 0, .int .i64 0, .int .i64 0, .int .i64 0, .int .i64 0, .int .i64 0, .int .i64 0, .int .i64 0, .int .i64 0, .int .i64 0, .int .i64 0, .int .i64 0, .int .i64 0, .int .i64 0, .int .i64 0, .int .i64 0, .int .i64 0, .int .i64 0, .int .i64 0, .int .i64 0, .int .i64 0, .int .i64 0, .int .i64 0, .int .i64 0, .int .i64 0, .int .i64 0, .int .i64 0, .int .i64 0, .int .i64 0, .int .i64 0, .int .i64 0, .int .i64 0, .int .i64 0, .int .i64 0, .int .i64 0, .int .i64 0, .int .i64 0] #[.int .i64 0, .int .i64 0, .int .i64 0, .int .i64 0, .int .i64 0, .int .i64 0, .int .i64 0, .int .i64 0, .int .i64 0, .int .i64 0, .int .i64 0, .int .i64 0, .int .i64 0, .int .i64 0, .int .i64 0, .int .i64 0, .int .i64 0, .int .i64 0, .int .i64 0, .int .i64 0, .int .i64 0, .int .i64 0, .int .i64 0, .int .i64 0, .int .i64 0, .int .i64 0, .int .i64 0, .int .i64 0, .int .i64 0, .int .i64 0, .int .i64 0, .int .i64 0, .int .i64 0, .int .i64 0, .int .i64 0, .int .i64 0, .int .i64 0, .int .i64 0, .int .i64 0, .int .i64 0, .int .i64 0, .int .i64 0, .int .i64 0, .int .i64 0, .int .i64 0, .int .i64 0, .int .i64 0, .int .i64 0, .int .i64 0, .int .i64 0, .int .i64 0, .int .i64 0, .int .i64 0, .int .i64 0, .int .i64 0, .int .i64 0, .int .i64 0, .int .i64 0, .int .i64 0, .int .i64 0, .int .i64 0, .int .i64 0, .int .i64 0, .int .i64 0] 96 96
  have HE := hide ew
  have B0 := hide (show FarAt w1 w.heap.size (nomet 0) from b0)
  have B1 := hide (show FarAt w1 (w.heap.size + 1) (nomet 0) from b1)
  clear ew b0 b1
  go_enter Tryd.func71, Tryd.ntmps71
  go_wp2_with fail
  rw [HE.out]
  go_loopw [3] (fun i wr => ∃ k : Nat, k ≤ 64 ∧ i = .int .i64 k ∧ Hid (FarAt wr (w.heap.size + 1) (nomet k)) ∧ Hid (FarAt wr w.heap.size (nomet 0)) ∧ Below w.heap.size w wr) (fun i _ => 64 - (Go.RowKit.intOf i).toNat)
  case atStart => exact ⟨0, by omega, rfl, B1, B0, hB⟩
  case round =>
    obtain ⟨k, hk, rfl, h1, h0, hb⟩ := hrel
    by_cases hlt : k < 64
    · have c1 := far_cell h1.out k (by rw [nomet_len k hk]; exact hlt)
      have f1 := far_free h1.out k
      generalize (nomet k)[k]'(by rw [nomet_len k hk]; exact hlt) = u at c1
      go_wp2
      go_roundw
      case rel =>
        refine ⟨k + 1, by omega, by go_num, hide ?_, hide ?_, hb.setCell (by simp) _⟩
        · have := far_set h1.out k (-1)
          rw [nomet_set k hlt] at this; exact this
        · show _ = _
          rw [heap_setCell_other _ _ _ _ (by simp)]; exact h0.out
      case measure => simp [Go.RowKit.intOf]; omega
    · obtain rfl : k = 64 := by omega
      go_wp2_with (first
        | (refine wpList_load_row rfl 96 (.tmp 1) rfl (w.heap.size + 1) rfl _ _ _ _ h1.out Tryd.underlying96 rfl (met_info' _ (nomet_len 64 (by omega))) ?_)
        | (refine wpList_store_row rfl 96 (.tmp 0) (.tmp 9) rfl w.heap.size rfl (fa (nomet 64)) rfl _ _ h0.out (met_info' _ (nomet_len 64 (by omega))) (by rw [fa_size, fa_size]; rfl) (fa_one _) ?_))
      have hr := setRow_heap wr w.heap.size _ (fa (nomet 64)) _ _ h0.out
      refine bodyPost_ret (results_row rfl w.heap.size rfl _ _ _ _ hr Tryd.underlying96 rfl (met_info' _ (nomet_len 64 (by omega)))) rfl ⟨rfl, below_setRow hb (Nat.le_refl _) _⟩
end Go.Proofs.YtohfpcnekfpdkaaDoor
