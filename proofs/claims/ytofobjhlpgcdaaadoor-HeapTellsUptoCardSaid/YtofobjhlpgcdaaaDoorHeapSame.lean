/- Layer heap: Same, by slices.EqualFunc and slices.Equal. -/
import Derived.Test.YtofobjhlpgcdaaaDoorHeapRight
namespace Go.Proofs.YtofobjhlpgcdaaaDoor
open Go.RowKit

set_option maxHeartbeats 2000000 in
theorem Equal_ints (va vb : Value) (a b : List Int) (w : World) (ha : Ints w va a) (hb : Ints w vb b) :
    Calls Tryd.prog 31 #[va, vb] w fun e w' => e = .returned (.bool (decide (a = b))) ∧ Below w.heap.size w w' := by
  have ha' := ha
  have hb' := hb
  obtain ⟨A, c, rfl, h1, h2, -⟩ := ha'
  obtain ⟨B, d, rfl, h3, h4, -⟩ := hb'
  unfold maxLen at h2 h4
  have HA := hide ha
  have HB := hide hb
  clear ha hb
  by_cases hn : a.length = b.length
  · have q : (((a.length : Int)) != ((b.length : Int))) = false := by rw [bne_eq_false_iff_eq]; omega
    have HN := hide hn
    clear hn
    go_enter Tryd.func31, Tryd.ntmps31
    go_wp2
    go_loopw [13] (fun i wr => ∃ k : Nat, k ≤ a.length ∧ i = .int .i64 k ∧ Below w.heap.size w wr ∧ Hid (a.take k = b.take k)) (fun i _ => a.length - (Go.RowKit.intOf i).toNat)
    case atStart => exact ⟨0, Nat.zero_le _, rfl, Below.refl _ _, hide (by simp)⟩
    case round =>
      obtain ⟨k, hk, rfl, hbw, HE⟩ := hrel
      by_cases hlt : k < a.length
      · have hlb : k < b.length := by have := HN.out; omega
        obtain ⟨b1, o1, rfl, -, c0⟩ := ints_at (HA.out.below hbw) hlt
        obtain ⟨b2, o2, rfl, -, c2⟩ := ints_at (HB.out.below hbw) hlb
        by_cases he : a[k] = b[k]
        · have e1 : (a[k] != b[k]) = false := by rw [bne_eq_false_iff_eq]; exact he
          have HE' := hide (show a.take (k + 1) = b.take (k + 1) by rw [List.take_succ_eq_append_getElem hlt, List.take_succ_eq_append_getElem hlb, HE.out, he])
          clear he
          generalize a[k] = x at *
          generalize b[k] = y at *
          go_wp2
          go_quiet (fail)
          go_wp2
          go_roundw
          case rel => exact ⟨k + 1, by omega, by go_num, bdrewN hbw _, HE'⟩
          case measure => simp [Go.RowKit.intOf]; omega
        · have e1 : (a[k] != b[k]) = true := by rw [bne_iff_ne]; exact he
          have HF := hide (show decide (a = b) = false by
            simp only [decide_eq_false_iff_not]
            intro h
            apply he
            simp [h])
          clear he
          generalize a[k] = x at *
          generalize b[k] = y at *
          go_wp2
          go_quiet (fail)
          go_wp2
          go_ret
          exact ⟨ret_bool HF.out.symm, bdrewN hbw _⟩
      · have HF := hide (show a = b by
          have h := HE.out
          have := HN.out
          rwa [List.take_of_length_le (by omega), List.take_of_length_le (by omega)] at h)
        go_wp2
        go_ret
        exact ⟨ret_bool (by rw [HF.out]; simp), hbw⟩
  · have q : (((a.length : Int)) != ((b.length : Int))) = true := by rw [bne_iff_ne]; omega
    have HN := hide (show decide (a = b) = false by simp; intro e; exact hn (by rw [e]))
    clear hn
    go_enter Tryd.func31, Tryd.ntmps31
    go_wp2
    go_ret
    exact ⟨ret_bool HN.out.symm, Below.refl _ _⟩
set_option maxHeartbeats 2000000 in
theorem EqualFunc_rows (va vb : Value) (a b : Rws) (w : World) (ha : Grid w va a) (hb : Grid w vb b) :
    Calls Tryd.prog 30 #[va, vb, .func (.func 31) #[] #[]] w fun e w' => e = .returned (.bool (decide (a = b))) ∧ Below w.heap.size w w' := by
  obtain ⟨A, c, rfl, h1, h2⟩ := ha.form
  obtain ⟨B, d, rfl, h3, h4⟩ := hb.form
  unfold maxLen at h2 h4
  have HA := hide ha
  have HB := hide hb
  clear ha hb
  by_cases hn : a.length = b.length
  · have q : (((a.length : Int)) != ((b.length : Int))) = false := by rw [bne_eq_false_iff_eq]; omega
    have HN := hide hn
    clear hn
    go_enter Tryd.func30, Tryd.ntmps30
    go_wp2
    go_loopw [17] (fun i wr => ∃ k : Nat, k ≤ a.length ∧ i = .int .i64 k ∧ Below w.heap.size w wr ∧ Hid (a.take k = b.take k)) (fun i _ => a.length - (Go.RowKit.intOf i).toNat)
    case atStart => exact ⟨0, Nat.zero_le _, rfl, Below.refl _ _, hide (by simp)⟩
    case round =>
      obtain ⟨k, hk, rfl, hbw, HE⟩ := hrel
      by_cases hlt : k < a.length
      · have hlb : k < b.length := by have := HN.out; omega
        obtain ⟨b1, o1, u1, rfl, -, c0, r1⟩ := grid_at (HA.out.below hbw) hlt
        obtain ⟨b2, o2, u2, rfl, -, c2, r2⟩ := grid_at (HB.out.below hbw) hlb
        have hT := hide (show a.take (k + 1) = a.take k ++ [a[k]] ∧ b.take (k + 1) = b.take k ++ [b[k]] from ⟨List.take_succ_eq_append_getElem hlt, List.take_succ_eq_append_getElem hlb⟩)
        have hG := hide (show a = b → a[k] = b[k] by intro h; simp [h])
        generalize a[k] = x at *
        generalize b[k] = y at *
        have R1 := hide r1
        have R2 := hide r2
        obtain ⟨A1, d1, rfl, -⟩ := r1
        obtain ⟨A2, d2, rfl, -⟩ := r2
        go_wp2_with fail
        (with_reducible refine (Equal_ints _ _ x y _ R1.out R2.out).mono ?_)
        rintro e w2 ⟨rfl, hb2⟩
        by_cases he : x = y
        · rw [decide_eq_true he]
          have HE' := hide (show a.take (k + 1) = b.take (k + 1) by rw [hT.out.1, hT.out.2, HE.out, he])
          clear he
          go_wp2
          go_roundw
          case rel => exact ⟨k + 1, by omega, by go_num, bcall hbw hb2, HE'⟩
          case measure => simp [Go.RowKit.intOf]; omega
        · rw [decide_eq_false he]
          have HF := hide (show decide (a = b) = false by
            simp only [decide_eq_false_iff_not]
            exact fun h => he (hG.out h))
          clear he
          go_wp2
          go_ret
          exact ⟨ret_bool HF.out.symm, bcall hbw hb2⟩
      · have HF := hide (show a = b by
          have h := HE.out
          have := HN.out
          rwa [List.take_of_length_le (by omega), List.take_of_length_le (by omega)] at h)
        go_wp2
        go_ret
        exact ⟨ret_bool (by rw [HF.out]; simp), hbw⟩
  · have q : (((a.length : Int)) != ((b.length : Int))) = true := by rw [bne_iff_ne]; omega
    have HN := hide (show decide (a = b) = false by simp; intro e; exact hn (by rw [e]))
    clear hn
    go_enter Tryd.func30, Tryd.ntmps30
    go_wp2
    go_ret
    exact ⟨ret_bool HN.out.symm, Below.refl _ _⟩

theorem Same_any (n m : Int) (va vb : Value) (a b : Rws) (w : World) (ha : Grid w va a) (hb : Grid w vb b) :
    Calls Tryd.prog 17 #[hv n va, hv m vb] w fun e w' => e = .returned (.bool (sameF n a m b)) ∧ Below w.heap.size w w' := by
  obtain ⟨A, c, rfl, h1, h2⟩ := ha.form
  obtain ⟨B, d, rfl, h3, h4⟩ := hb.form
  unfold maxLen at h2 h4
  have HA := hide ha
  have HB := hide hb
  clear ha hb
  by_cases hn : n = m
  · have e0 : (n == m) = true := by rw [beq_iff_eq]; exact hn
    have HF := hide (show sameF n a m b = decide (a = b) by unfold sameF; rw [hn]; simp)
    clear hn
    go_enter Tryd.func17, Tryd.ntmps17
    go_wp2_with fail
    (with_reducible refine (EqualFunc_rows _ _ a b _ ((HA.out.alloc _).alloc _) ((HB.out.alloc _).alloc _)).mono ?_)
    rintro e w2 ⟨rfl, hb2⟩
    rw [← HF.out]
    go_wp2
    go_ret
    exact ⟨rfl, btr ((bal _ _).alloc (by simp) _) hb2 (by simp)⟩
  · have e0 : (n == m) = false := by rw [beq_eq_false_iff_ne]; exact hn
    have HF := hide (show sameF n a m b = false by unfold sameF; rw [decide_eq_false]; exact fun h => hn h.1)
    clear hn
    go_enter Tryd.func17, Tryd.ntmps17
    go_wp2
    go_ret
    exact ⟨ret_bool HF.out.symm, (bal _ _).alloc (by simp) _⟩
end Go.Proofs.YtofobjhlpgcdaaaDoor
