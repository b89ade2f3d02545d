import Derived.Test.YtjbaiibbgplljaaGreatDoorPah
import Derived.Test.YtjbaiibbgplljaaGreatDoorPad
import Derived.Test.YtjbaiibbgplljaaGreatDoorPat
set_option maxRecDepth 100000
set_option maxHeartbeats 40000000
namespace Go.Proofs.YtjbaiibbgplljaaGreatDoor
open Go.RowKit
theorem count_any (n : Int) (v : Value) (ls : Rws) (w : World) (h : Grid w v ls) :
 Calls Tryz.prog 134 #[hv n v] w fun e w' => e = .returned (.int .i64 (min (ls.length : Int) 64)) ∧ Below w.heap.size w w' := by
 obtain ⟨A, c, rfl, h1, h2⟩ := h.form; unfold maxLen at h2; clear h; go_enter Tryz.func134, Tryz.ntmps134
 go_wp2; all_goals
  go_ret
  exact ⟨ret_int (by omega), balHp _ _⟩
theorem every_any (o : Int) (w : World) : Calls Tryz.prog 92 #[.int .i64 o] w fun e w' => e = .returned (.bool true) ∧ w' = w := by
 go_enter Tryz.func92, Tryz.ntmps92
 go_wp2; go_ret
 exact ⟨rfl, rfl⟩
abbrev fa (far : List Int) : Array Value := (far.map (Value.int .i64)).toArray
theorem fa_size (far : List Int) : (fa far).size = far.length := by simp
theorem fa_one (far : List Int) : (fa far).all (·.oneCell') = true := by
 rw [Array.all_eq_true_iff_forall_mem]; intro v hv; simp at hv
 obtain ⟨a, _, rfl⟩ := hv; rfl
abbrev FarAt (w : World) (b : Nat) (far : List Int) : Prop := w.heap[b]? = some (.cells (fa far) 146 (0, 0))
theorem far_cell {w : World} {b : Nat} {far : List Int} (h : FarAt w b far) (k : Nat) (hk : k < far.length) : w.cell? ⟨b, k, none⟩ = some (.int .i64 far[k]) := by
 rw [cell_of_row _ _ _ _ _ _ h]; simp [hk]
theorem far_free {w : World} {b : Nat} {far : List Int} (h : FarAt w b far) (k : Nat) : w.frozen? ⟨b, k, none⟩ = false := frozen_of_row _ _ _ _ _ h
theorem far_set {w : World} {b : Nat} {far : List Int} (h : FarAt w b far) (k : Nat) (d : Int) : FarAt (w.setCell ⟨b, k, none⟩ (.int .i64 d)) b (far.set k d) := by
 show _ = _
 rw [heap_setCell_same _ _ _ _ _ _ h]; congr 2
 simp [List.map_set]
theorem met_info : (Tryz.prog.info? 146).map (·.size) = some 64 := by kernel_rfl
theorem met_info' (far : List Int) (h : far.length = 64) : (Tryz.prog.info? 146).map (·.size) = some (fa far).size := by rw [fa_size, h]; exact met_info
def nomet (k : Nat) : List Int := List.replicate k (-1) ++ List.replicate (64 - k) 0
theorem nomet_len (k : Nat) (h : k ≤ 64) : (nomet k).length = 64 := by unfold nomet; simp; omega
theorem nomet_set (k : Nat) (h : k < 64) : (nomet k).set k (-1) = nomet (k + 1) := by
 unfold nomet; rw [List.set_append_right _ _ (by simp), List.length_replicate, Nat.sub_self, show 64 - k = (64 - (k + 1)) + 1 by omega, List.replicate_succ, List.set_cons_zero, List.replicate_succ' (n := k), List.append_assoc]; rfl
theorem nothingMet_any (w : World) : Calls Tryz.prog 132 #[] w fun e w' => e = .returned (.agg (fa (List.replicate 64 (-1)))) ∧ Below w.heap.size w w' := by
 obtain ⟨w1, ew, b0, b1, hB, hS⟩ := two_new w #[.int .i64 0, .int .i64 0, .int .i64 0, .int .i64 0, .int .i64 0, .int .i64 0, .int .i64 0, .int .i64 0, .int .i64 0, .int .i64 0, .int .i64 0, .int .i64 0, .int .i64 0, .int .i64 0, .int .i64 0, .int .i64 0, .int .i64 0, .int .i64 0, .int .i64 0, .int .i64 0, .int .i64 0, .int .i64 0, .int .i64 0, .int .i64 0, .int .i64 0, .int .i64 0, .int .i64 0, .int .i64 0, .int .i64 0, .int .i64 0, .int .i64 0, .int .i64 0, .int .i64 0, .int .i64 0, .int .i64 0, .int .i64 0, .int .i64 0, .int .i64 0, .int .i64 0, .int .i64 0, .int .i64 0, .int .i64 0, .int .i64 0, .int .i64 0, .int .i64 0, .int .i64 0, .int .i64 0, .int .i64 0, .int .i64 0, .int .i64 0, .int .i64 0, .int .i64 0, .int .i64 0, .int .i64 0, .int .i64 0, .int .i64 0, .int .i64 0, .int .i64 0, .int .i64 0, .int .i64 0, .int .i64 0, .int .i64 0, .int .i64 0, .int .i64 0] #[.int .i64 0, .int .i64 0, .int .i64 0, .int .i64 0, .int .i64 0, .int .i64 0, .int .i64 0, .int .i64 0, .int .i64 0, .int .i64 0, .int .i64 0, .int .i64 0, .int .i64 0, .int .i64 0, .int .i64 0, .int .i64 0, .int .i64 0, .int .i64 0, .int .i64 0, .int .i64 0, .int .i64 0, .int .i64 0, .int .i64 0, .int .i64 0, .int .i64 0, .int .i64 0, .int .i64 0, .int .i64 0, .int .i64 0, .int .i64 0, .int .i64 0, .int .i64 0, .int .i64 0, .int .i64 0, .int .i64 0, .int .i64 0, .int .i64 0, .int .i64 0, .int .i64 0, .int .i64 0, .int .i64 0, .int .i64 0, .int .i64 0, .int .i64 0, .int .i64 0, .int .i64 0, .int .i64 0, .int .i64 0, .int .i64 0, .int .i64 0, .int .i64 0, .int .i64 0, .int .i64 0, .int .i64 0, .int .i64 0, .int .i64 0, .int .i64 0, .int .i64 0, .int .i64 0, .int .i64 0, .int .i64 0, .int .i64 0, .int .i64 0, .int .i64 0] 146 146; have HE := hide ew; have B0 := hide (show FarAt w1 w.heap.size (nomet 0) from b0); have B1 := hide (show FarAt w1 (w.heap.size + 1) (nomet 0) from b1); clear ew b0 b1; go_enter Tryz.func132, Tryz.ntmps132
 go_wp2_with fail
 rw [HE.out]; go_loopw [3] (fun i wr => ∃ k : Nat, k ≤ 64 ∧ i = .int .i64 k ∧ Hid (FarAt wr (w.heap.size + 1) (nomet k)) ∧ Hid (FarAt wr w.heap.size (nomet 0)) ∧ Below w.heap.size w wr) (fun i _ => 64 - (intOf i).toNat)
 case atStart => exact ⟨0, by omega, rfl, B1, B0, hB⟩
 case round =>
  obtain ⟨k, hk, rfl, h1, h0, hb⟩ := hrel; by_cases hlt : k < 64
  · have c1 := far_cell h1.out k (by rw [nomet_len k hk]; exact hlt)
    have f1 := far_free h1.out k; generalize (nomet k)[k]'(by rw [nomet_len k hk]; exact hlt) = u at c1; go_wp2; go_roundw
    case rel =>
     refine ⟨k + 1, by omega, by go_num, hide ?_, hide ?_, hb.setCell (by simp) _⟩
     · have := far_set h1.out k (-1)
       rw [nomet_set k hlt] at this; exact this
     · show _ = _
       rw [heap_setCell_other _ _ _ _ (by simp)]; exact h0.out
    case measure => simp [intOf]; omega
  · obtain rfl : k = 64 := by omega
    go_wp2_with (first
     | (refine wpList_load_row rfl 146 (.tmp 1) rfl (w.heap.size + 1) rfl _ _ _ _ h1.out Tryz.underlying146 rfl (met_info' _ (nomet_len 64 (by omega))) ?_)
     | (refine wpList_store_row rfl 146 (.tmp 0) (.tmp 9) rfl w.heap.size rfl (fa (nomet 64)) rfl _ _ h0.out (met_info' _ (nomet_len 64 (by omega))) (by rw [fa_size, fa_size]; rfl) (fa_one _) ?_))
    have hr := setRow_heap wr w.heap.size _ (fa (nomet 64)) _ _ h0.out; refine bodyPost_ret (results_row rfl w.heap.size rfl _ _ _ _ hr Tryz.underlying146 rfl (met_info' _ (nomet_len 64 (by omega)))) rfl ⟨rfl, below_setRow hb (Nat.le_refl _) _⟩
def metS (far : List Int) : Nat → Nat
 | 0 => 0
 | k + 1 => if far.getD k (-1) = -1 then metS far k else addF (metS far k) ((k : Int) + 1)
theorem metS_lt (far : List Int) : ∀ k, metS far k < 18446744073709551616
 | 0 => by unfold metS; decide
 | k + 1 => by unfold metS; split; exact metS_lt far k; exact add_lt (metS_lt far k) _
theorem has_metS (far : List Int) (x : Int) : ∀ k, k ≤ 64 → (hasF (metS far k) x = true ↔ 1 ≤ x ∧ x ≤ k ∧ farA far x ≠ -1)
 | 0, _ => by unfold metS; rw [has_zero]; simp; omega
 | k + 1, hk => by
   have ih := has_metS far x k (by omega); have hone : hasF (onlyF ((k : Int) + 1)) x = decide (x = (k : Int) + 1) := by
    by_cases hx : 1 ≤ x ∧ x ≤ 64
    · obtain ⟨i, rfl⟩ : ∃ i : Nat, x = (i : Int) + 1 := ⟨(x - 1).toNat, by omega⟩
      rw [has_bit _ _ (by omega), testBit_only]; congr 1; apply propext; omega
    · rw [has_no _ _ hx]; symm; rw [decide_eq_false_iff_not]; omega
   unfold metS; split
   · rename_i h
     rw [ih]; constructor
     · rintro ⟨a, b, c⟩; exact ⟨a, by omega, c⟩
     · rintro ⟨a, b, c⟩
       refine ⟨a, ?_, c⟩; apply Decidable.byContradiction
       intro hne; obtain rfl : x = (k : Int) + 1 := by omega
       apply c
       unfold farA; rw [show ((k : Int) + 1 - 1).toNat = k by omega]; exact h
   · rename_i h
     unfold addF; rw [has_orRc, Bool.or_eq_true, ih, hone, decide_eq_true_iff]; constructor
     · rintro (⟨a, b, c⟩ | rfl)
       · exact ⟨a, by omega, c⟩
       · refine ⟨by omega, by omega, ?_⟩
         unfold farA; rw [show ((k : Int) + 1 - 1).toNat = k by omega]; exact h
     · rintro ⟨a, b, c⟩
       by_cases e : x = (k : Int) + 1
       · exact .inr e
       · exact .inl ⟨a, by omega, c⟩
theorem far_index (far : List Int) (k : Nat) (d : Int) (h : far[k]? = some d) (hk : k < 64) (w : World) : (Instr.index 146 (.agg (fa far)) (.int .i64 k)).run Tryz.prog w = .ok (.int .i64 d) w := by
 have hc : (fa far)[k]? = some (.int .i64 d) := by simp [h]
 have h0 : (0 : Int) ≤ k ∧ (k : Int) < (64 : Nat) := by omega
 simp [Instr.index, run_underlying Tryz.underlying146, asIntOf, part, Tryz.isAgg3, Tryz.sizeOf3, hk, h]
theorem metset_any (far : List Int) (hl : far.length = 64) (w : World) :
 Calls Tryz.prog 90 #[.agg (fa far)] w fun e w' => e = .returned (.int .u64 (metS far 64 : Nat)) ∧ Below w.heap.size w w' := by
 obtain ⟨w1, ew⟩ : ∃ w1, w.alloc (.cells (fa far) 146) = w1 := ⟨_, rfl⟩; have hB : Below w.heap.size w w1 := by rw [← ew]; exact balHp _ _
 have hF : FarAt w1 w.heap.size far := by rw [← ew]; exact heap_alloc_new w _
 have HF := hide hF; have HE := hide ew; clear ew hF; go_enter Tryz.func90, Tryz.ntmps90
 go_wp2_with (rw [HE.out]; refine wpList_load_row rfl 146 (.tmp 1) rfl w.heap.size rfl _ _ _ _ HF.out Tryz.underlying146 rfl (met_info' _ hl) ?_)
 go_loopw [3, 7] (fun s i wr => ∃ k : Nat, k ≤ 64 ∧ i = .int .i64 k ∧ s = .int .u64 (metS far k : Nat) ∧ Below w.heap.size w wr) (fun _ i _ => 64 - (intOf i).toNat)
 case atStart => exact ⟨0, by omega, rfl, rfl, hB⟩
 case round =>
  obtain ⟨k, hk, rfl, rfl, hb⟩ := hrel; by_cases hlt : k < 64
  · obtain ⟨d, hd⟩ : ∃ d, far[k]? = some d := ⟨_, List.getElem?_eq_getElem (by omega)⟩
    have hix : (fa far)[k]? = some (.int .i64 d) := by simp [hd]
    have hgd : far.getD k (-1) = d := by rw [List.getD_eq_getElem?_getD, hd]; rfl
    have hidx := far_index far k d hd hlt; have HD := hide hgd; have HX := hide hd; have hml := metS_lt far k; clear hd hgd hix; by_cases hd : d = -1
    · subst hd
      go_wp2; go_roundw
      case rel => exact ⟨k + 1, by omega, by go_num, by rw [metS, if_pos HD.out], hb⟩
      case measure => simp [intOf]; omega
    · have hdb : (d != -1) = true := by simpa using hd
      go_wp2_with fail
      refine (Add_any _ _ _ hml (by omega) (by omega)).mono ?_; rintro e w2 ⟨rfl, rfl⟩; go_wp2; go_roundw
      case rel => exact ⟨k + 1, by omega, by go_num, by rw [metS, if_neg (by rw [HD.out]; exact hd)], hb⟩
      case measure => simp [intOf]; omega
  · obtain rfl : k = 64 := by omega
    go_wp2; go_ret
    exact ⟨rfl, hb⟩
