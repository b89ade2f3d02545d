/- Layer set: the document's own answer: lists, and the first objects. -/
import Derived.Test.YtohfpcnekfpdkaaDoorSetRef
namespace Go.Proofs.YtohfpcnekfpdkaaDoor
open Go.RowKit Go.Shelf Go.Proofs

def pobjs (k s : Nat) : List Int := ((List.range k).filter fun i => s.testBit i).map fun (i : Nat) => (i : Int) + 1
theorem pobjs_all (s : Nat) : pobjs 64 s = objs s := rfl
theorem pobjs_yes (k s : Nat) (h : s.testBit k = true) : pobjs (k + 1) s = pobjs k s ++ [(k : Int) + 1] := by
  unfold pobjs; rw [List.range_succ, List.filter_append, List.map_append]; simp [h]
theorem pobjs_no (k s : Nat) (h : s.testBit k = false) : pobjs (k + 1) s = pobjs k s := by
  unfold pobjs; rw [List.range_succ, List.filter_append, List.map_append]; simp [h]
theorem pobjs_len (k s : Nat) : (pobjs k s).length ≤ k := by
  unfold pobjs; rw [List.length_map]
  have := List.length_filter_le (fun i => s.testBit i) (List.range k)
  rwa [List.length_range] at this
set_option maxRecDepth 100000 in
set_option maxHeartbeats 1000000 in
theorem rList_any (s : Nat) (w : World) (hs : s < 18446744073709551616) :
    Calls Tryd.prog 76 #[.int .u64 s] w fun e w' => ∃ v, e = .returned v ∧ w'.ownsRow w.heap.size 3 1 v (objs s).length ((objs s).flatMap ic) ∧ Below w.heap.size w w' := by
  obtain ⟨i0, hi, hz0, hz1, hz2⟩ := info_parts info3
  go_enter Tryd.func76, Tryd.ntmps76
  go_wp2
  go_loopw [3, 4] (fun v i wr => ∃ k : Nat, k ≤ 64 ∧ i = .int .i64 ((k : Int) + 1) ∧ wr.ownsRow w.heap.size 3 1 v (pobjs k s).length ((pobjs k s).flatMap ic) ∧ Below w.heap.size w wr) (fun _ i _ => 65 - (Go.RowKit.intOf i).toNat)
  case atStart => exact ⟨0, by omega, rfl, World.ownsRow_nil _ _ _ _, Below.refl _ _⟩
  case round =>
    obtain ⟨k, hk, rfl, hown, hb⟩ := hrel
    obtain ⟨A, cp, rfl, hcp, hcm⟩ := own_form hown
    have hpl := pobjs_len k s
    have hsz := hb.size
    by_cases hlt : k < 64
    · have hH := rHas_any s ((k : Int) + 1) wr hs (by omega) (by omega)
      rw [has_bit _ _ hlt] at hH
      cases hbit : s.testBit k
      · rw [hbit] at hH
        have HH := hide hH
        have HS := hide (pobjs_no k s hbit)
        clear hH hbit
        go_wp2_with (go_at_call 60; refine HH.out.mono ?_; rintro e w' ⟨rfl, rfl⟩)
        go_roundw
        case rel => exact ⟨k + 1, by omega, by go_num, by rw [HS.out]; exact hown, hb⟩
        case measure => simp [Go.RowKit.intOf]; omega
      · rw [hbit] at hH
        have HH := hide hH
        have HS := hide (pobjs_yes k s hbit)
        clear hH hbit
        go_wp2_with (first
          | (go_at_call 60; refine HH.out.mono ?_; rintro e w' ⟨rfl, rfl⟩)
          | (at_builtin; refine wpList_append_own _ rfl _ _ 54 rfl w.heap.size 3 i0 (.int .i64 0) 1 8 Tryd.underlying54 hi hz0 hz1 hz2 rfl (by decide) _ _ _ rfl (hown.alloc _) ⟨_, 0, none⟩ 1 1 [.int .i64 ((k : Int) + 1)] rfl rfl (row_at _ _ _ (by simp)) (by simp [Value.oneCell']) (by simp only [maxLen]; omega) (by omega) (by simp; omega) ?_; intro v' w3 hown' hgrow _))
        go_roundw
        case rel => exact ⟨k + 1, by omega, by go_num, by rw [HS.out, List.length_append, List.flatMap_append]; exact hown', (hb.alloc (by omega) _).grown hgrow (by simp; omega) (own_ge hown)⟩
        case measure => simp [Go.RowKit.intOf]; omega
    · have hkk : k = 64 := by omega
      subst hkk
      go_wp2
      go_ret
      exact ⟨_, rfl, hown, hb⟩
set_option maxHeartbeats 1000000 in
theorem rOf_any (v : Value) (l : List Int) (w : World) (hl : Ints w v l) (hr : ∀ o ∈ l, -9223372036854775808 ≤ o ∧ o ≤ 9223372036854775807) :
    Calls Tryd.prog 77 #[v] w fun e w' => e = .returned (.int .u64 (ofF l : Nat)) ∧ w' = w := by
  have hl' := hl
  obtain ⟨A, c, rfl, h1, h2, -⟩ := hl'
  unfold maxLen at h2
  have HL := hide hl
  have HR := hide hr
  clear hl hr
  go_enter Tryd.func77, Tryd.ntmps77
  go_wp2
  go_loop [3, 4] (fun s i => ∃ k : Nat, k ≤ l.length ∧ i = .int .i64 k ∧ s = .int .u64 (ofF (l.take k) : Nat)) (fun _ i => l.length - (Go.RowKit.intOf i).toNat)
  case atStart => exact ⟨0, Nat.zero_le _, rfl, rfl⟩
  case round =>
    obtain ⟨k, hk, rfl, rfl⟩ := hrel
    by_cases hlt : k < l.length
    · obtain ⟨b, off, rfl, -, hc⟩ := ints_at HL.out hlt
      have hb := HR.out _ (List.getElem_mem hlt)
      have HS := hide (ofF_snoc l k hlt)
      have hlo := ofF_lt (l.take k)
      generalize l[k] = o at *
      go_wp2_with (go_at_call 86; refine (rAdd_any _ _ _ hlo hb.1 hb.2).mono ?_; rintro e w' ⟨rfl, rfl⟩)
      go_round
      case rel => exact ⟨k + 1, by omega, by go_num, by rw [HS.out]⟩
      case measure => simp [Go.RowKit.intOf]; omega
    · go_wp2
      go_ret
      refine ⟨ret_u64 ?_, rfl⟩
      rw [List.take_of_length_le (by omega)]
theorem first_step (k : Nat) (h : k < 64) : firstF ((k : Int) + 1) = addF (firstF k) ((k : Int) + 1) :=
  set_ext (first_lt _) (add_lt (first_lt _) _) fun i hi => by
    rw [first_bit, testBit_add, first_bit, Bool.eq_iff_iff]
    simp only [Bool.or_eq_true, decide_eq_true_eq]
    omega
theorem first_zero (n : Int) (h : n < 1) : firstF n = 0 := by unfold firstF; rw [show (min (max n 0) 64).toNat = 0 by omega]
theorem first_big (n : Int) (h : 64 ≤ n) : firstF n = firstF 64 := by unfold firstF; rw [show (min (max n 0) 64).toNat = 64 by omega]; rfl
set_option maxHeartbeats 1000000 in
theorem rFirst_any (n : Int) (w : World) (h0 : -9223372036854775808 ≤ n) (h1 : n ≤ 9223372036854775807) :
    Calls Tryd.prog 74 #[.int .i64 n] w fun e w' => e = .returned (.int .u64 (firstF n : Nat)) ∧ w' = w := by
  go_enter Tryd.func74, Tryd.ntmps74
  go_wp2
  go_loop [3, 4] (fun s i => ∃ k : Nat, k ≤ 64 ∧ (k : Int) ≤ max n 0 ∧ i = .int .i64 ((k : Int) + 1) ∧ s = .int .u64 (firstF k : Nat)) (fun _ i => 65 - (Go.RowKit.intOf i).toNat)
  case atStart => exact ⟨0, by omega, by omega, rfl, rfl⟩
  case round =>
    obtain ⟨k, hk, hkn, rfl, rfl⟩ := hrel
    have hlo := first_lt k
    by_cases hlt : (k : Int) + 1 ≤ n ∧ k < 64
    · obtain ⟨hn, hk64⟩ := hlt
      have HS := hide (first_step k hk64)
      have q1 : decide ((k : Int) + 1 ≤ n) = true := decide_eq_true hn
      have q2 : decide ((k : Int) + 1 ≤ 64) = true := decide_eq_true (by omega)
      go_wp2_with (go_at_call 86; refine (rAdd_any _ _ _ hlo (by omega) (by omega)).mono ?_; rintro e w' ⟨rfl, rfl⟩)
      go_round
      case rel => exact ⟨k + 1, by omega, by omega, by go_num, by rw [show (((k + 1 : Nat) : Int)) = (k : Int) + 1 by omega, HS.out]⟩
      case measure => simp [Go.RowKit.intOf]; omega
    · have HF := hide (show firstF k = firstF n by
        by_cases hk64 : k = 64
        · subst hk64; exact (first_big n (by omega)).symm
        · by_cases hn : n < 1
          · rw [first_zero n hn, show k = 0 by omega]; rfl
          · rw [show n = (k : Int) by omega])
      rcases (show n < (k : Int) + 1 ∨ ((k : Int) + 1 ≤ n ∧ k = 64) by omega) with hn | ⟨hn, hk64⟩
      · have q1 : decide ((k : Int) + 1 ≤ n) = false := decide_eq_false (by omega)
        go_wp2
        go_ret
        exact ⟨ret_u64 (by rw [HF.out]), rfl⟩
      · have q1 : decide ((k : Int) + 1 ≤ n) = true := decide_eq_true hn
        have q2 : decide ((k : Int) + 1 ≤ 64) = false := decide_eq_false (by omega)
        clear hk64
        go_wp2
        go_ret
        exact ⟨ret_u64 (by rw [HF.out]), rfl⟩
end Go.Proofs.YtohfpcnekfpdkaaDoor
