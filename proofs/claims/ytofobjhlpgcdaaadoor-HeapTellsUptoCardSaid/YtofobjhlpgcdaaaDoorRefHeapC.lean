/- Layer heap: the document's own answer: Same. -/
import Derived.Test.YtofobjhlpgcdaaaDoorRefHeapB
import Derived.Test.YtofobjhlpgcdaaaDoorArr
namespace Go.Proofs.YtofobjhlpgcdaaaDoor
open Go.RowKit

theorem rsame_of {n : Int} {a b : Rws} (h : a = b) : sameF n a n b = true := by unfold sameF; rw [decide_eq_true]; exact ⟨rfl, h⟩
theorem rsame_no {n m : Int} {a b : Rws} (h : ¬ (n = m ∧ a = b)) : sameF n a m b = false := by unfold sameF; rw [decide_eq_false h]
theorem rtake_more {α : Type} {a b : List α} {k : Nat} (ha : k < a.length) (hb : k < b.length) (h : a.take k = b.take k) (he : a[k] = b[k]) : a.take (k + 1) = b.take (k + 1) := by
  rw [List.take_succ_eq_append_getElem ha, List.take_succ_eq_append_getElem hb, h, he]
set_option maxRecDepth 100000 in
set_option maxHeartbeats 4000000 in
theorem rSame_any (n m : Int) (va vb : Value) (a b : Rws) (w : World) (hga : Grid w va a) (hgb : Grid w vb b) :
    Calls Tryd.prog 18 #[hv n va, hv m vb] w fun e w' => e = .returned (.bool (sameF n a m b)) ∧ Below w.heap.size w w' := by
  have GA := hide hga
  have GB := hide hgb
  obtain ⟨A, c, rfl, h1, h2⟩ := hga.form
  obtain ⟨B, d, rfl, h3, h4⟩ := hgb.form
  unfold maxLen at h2 h4
  obtain ⟨w1, ew, b0, b1, hB1, hS1⟩ := two_new w #[.int .i64 n, .slice A a.length c] #[.int .i64 m, .slice B b.length d] 26 26
  have HE := hide ew
  have X0 := hide (show w1.cell? ⟨w.heap.size, 0, none⟩ = some (.int .i64 n) by rw [cell_of_row _ _ _ _ _ _ b0]; rfl)
  have X1 := hide (show w1.cell? ⟨w.heap.size, 1, none⟩ = some (.slice A a.length c) by rw [cell_of_row _ _ _ _ _ _ b0]; rfl)
  have Y0 := hide (show w1.cell? ⟨w.heap.size + 1, 0, none⟩ = some (.int .i64 m) by rw [cell_of_row _ _ _ _ _ _ b1]; rfl)
  have Y1 := hide (show w1.cell? ⟨w.heap.size + 1, 1, none⟩ = some (.slice B b.length d) by rw [cell_of_row _ _ _ _ _ _ b1]; rfl)
  clear hga hgb ew b0 b1
  by_cases hnm : n = m
  · subst hnm
    by_cases hl : a.length = b.length
    · obtain ⟨L, hL⟩ : ∃ L, a.length = L := ⟨_, rfl⟩
      have hLb : b.length = L := by rw [← hl]; exact hL
      rw [hL] at HE X1 h1 GA
      rw [hLb] at HE Y1 h3 GB
      rw [hL, hLb]
      have HL := hide hL
      have HLb := hide hLb
      clear hl hL hLb
      go_enter Tryd.func18, Tryd.ntmps18
      go_wp2_with (rw [HE.out]; have x0 := X0.out; have x1 := X1.out; have y0 := Y0.out; have y1 := Y1.out)
      go_loopw [5] (fun i wi => ∃ k : Nat, k ≤ L ∧ i = .int .i64 k ∧ Below w1.heap.size w1 wi ∧ Hid (a.take k = b.take k)) (fun i _ => L - (Go.RowKit.intOf i).toNat)
      case atStart => exact ⟨0, Nat.zero_le _, rfl, Below.refl _ _, hide rfl⟩
      case round =>
        obtain ⟨k, hk, rfl, hb, HT⟩ := hrel
        have hbw := bcall hB1 hb
        have x1 := keepc hb X1.out
        have y1 := keepc hb Y1.out
        by_cases hlt : k < L
        · have hka : k < a.length := by rw [HL.out]; exact hlt
          have hkb : k < b.length := by rw [HLb.out]; exact hlt
          obtain ⟨ba, oa, ua, rfl, -, hca, hra⟩ := grid_at (GA.out.below hbw) hka
          obtain ⟨bb, ob, ub, rfl, -, hcb, hrb⟩ := grid_at (GB.out.below hbw) hkb
          have HTm := hide (fun he => rtake_more hka hkb HT.out he)
          have HNo := hide (show a[k] ≠ b[k] → sameF n a n b = false from fun hne => rsame_no fun h => hne (by have := h.2; subst this; rfl))
          obtain ⟨la, hla⟩ : ∃ l, a[k] = l := ⟨_, rfl⟩
          obtain ⟨lb, hlb⟩ : ∃ l, b[k] = l := ⟨_, rfl⟩
          rw [hla] at hra HTm HNo
          rw [hlb] at hrb HTm HNo
          have RA := hide hra
          have RB := hide hrb
          obtain ⟨Aa, ca, rfl, ha3, ha4, -⟩ := hra
          obtain ⟨Ab, cb, rfl, -, hb4, -⟩ := hrb
          unfold maxLen at ha4 hb4
          have x1q : ∀ p : BW wr, p.w.cell? ⟨w.heap.size, 1, none⟩ = some (.slice (some ⟨ba, oa, none⟩) L c) := fun p => keepc p.b x1
          have y1q : ∀ p : BW wr, p.w.cell? ⟨w.heap.size + 1, 1, none⟩ = some (.slice (some ⟨bb, ob, none⟩) L d) := fun p => keepc p.b y1
          have xaq : ∀ p : BW wr, p.w.cell? ⟨ba, oa + k, none⟩ = some (.slice Aa la.length ca) := fun p => keepc p.b hca
          have xbq : ∀ p : BW wr, p.w.cell? ⟨bb, ob + k, none⟩ = some (.slice Ab lb.length cb) := fun p => keepc p.b hcb
          clear hla hlb hka hkb
          by_cases hl2 : la.length = lb.length
          · obtain ⟨M, hM⟩ : ∃ M, la.length = M := ⟨_, rfl⟩
            have hMb : lb.length = M := by rw [← hl2]; exact hM
            rw [hM] at xaq hca RA ha3
            rw [hMb] at xbq hcb RB
            have HM := hide hM
            have HMb := hide hMb
            clear hl2 hM hMb
            go_wp2
            refine wp_region_below (by kernel_rfl) (by kernel_rfl) ?_
            repeat (go_big_quiet_step (fail))
            refine wpQuiet_nil ?_
            intro wq hw'
            obtain ⟨⟨wz, bq⟩, hw''⟩ := hw'
            subst hw''
            have d1 := keepc bq x1
            have e1 := keepc bq y1
            have da := keepc bq hca
            have db := keepc bq hcb
            have RA := hide (RA.out.below bq)
            have RB := hide (RB.out.below bq)
            clear x1q y1q xaq xbq x1 y1 hca hcb
            go_wp2
            go_loopw [6] (fun i wi => ∃ j : Nat, j ≤ M ∧ i = .int .i64 j ∧ Below wq.heap.size wq wi ∧ Hid (la.take j = lb.take j)) (fun i _ => M - (Go.RowKit.intOf i).toNat)
            case atStart => exact ⟨0, Nat.zero_le _, rfl, Below.refl _ _, hide rfl⟩
            case round =>
              obtain ⟨j, hj, rfl, hbj, HJ⟩ := hrel
              have x1 := keepc hbj d1
              have y1 := keepc hbj e1
              have xa := keepc hbj da
              have xb := keepc hbj db
              by_cases hlj : j < M
              · have hja : j < la.length := by rw [HM.out]; exact hlj
                have hjb : j < lb.length := by rw [HMb.out]; exact hlj
                obtain ⟨b2, o2, rfl, -, hx⟩ := ints_at (RA.out.below hbj) hja
                obtain ⟨b3, o3, rfl, -, hy⟩ := ints_at (RB.out.below hbj) hjb
                have HJm := hide (fun he => rtake_more hja hjb HJ.out he)
                have HN2 := hide (show la[j] ≠ lb[j] → sameF n a n b = false from fun hne => HNo.out fun h => hne (by subst h; rfl))
                obtain ⟨x, hxx⟩ : ∃ x, la[j] = x := ⟨_, rfl⟩
                obtain ⟨y, hyy⟩ : ∃ x, lb[j] = x := ⟨_, rfl⟩
                rw [hxx] at hx HJm HN2
                rw [hyy] at hy HJm HN2
                have x1q : ∀ p : BW wr, p.w.cell? ⟨w.heap.size, 1, none⟩ = some (.slice (some ⟨ba, oa, none⟩) L c) := fun p => keepc p.b x1
                have y1q : ∀ p : BW wr, p.w.cell? ⟨w.heap.size + 1, 1, none⟩ = some (.slice (some ⟨bb, ob, none⟩) L d) := fun p => keepc p.b y1
                have xaq : ∀ p : BW wr, p.w.cell? ⟨ba, oa + k, none⟩ = some (.slice (some ⟨b2, o2, none⟩) M ca) := fun p => keepc p.b xa
                have xbq : ∀ p : BW wr, p.w.cell? ⟨bb, ob + k, none⟩ = some (.slice (some ⟨b3, o3, none⟩) M cb) := fun p => keepc p.b xb
                have xxq : ∀ p : BW wr, p.w.cell? ⟨b2, o2 + j, none⟩ = some (.int .i64 x) := fun p => keepc p.b hx
                have xyq : ∀ p : BW wr, p.w.cell? ⟨b3, o3 + j, none⟩ = some (.int .i64 y) := fun p => keepc p.b hy
                clear hxx hyy hja hjb
                by_cases hxy : x = y
                · have e4 : (x != y) = false := by rw [bne_eq_false_iff_eq]; exact hxy
                  have HK := hide (HJm.out hxy)
                  clear hxy
                  go_wp2
                  refine wp_region_below (by kernel_rfl) (by kernel_rfl) ?_
                  repeat (go_big_quiet_step (fail))
                  refine wpQuiet_nil ?_
                  intro wy hw'
                  obtain ⟨⟨wz, by_⟩, hw''⟩ := hw'
                  subst hw''
                  go_wp2
                  go_roundw
                  case rel => exact ⟨j + 1, by omega, by go_num, bcall hbj by_, HK⟩
                  case measure => simp [Go.RowKit.intOf]; omega
                · have e4 : (x != y) = true := by rw [bne_iff_ne]; exact hxy
                  have HF := hide (HN2.out hxy)
                  clear hxy
                  go_wp2
                  refine wp_region_below (by kernel_rfl) (by kernel_rfl) ?_
                  repeat (go_big_quiet_step (fail))
                  refine wpQuiet_nil ?_
                  intro wy hw'
                  obtain ⟨⟨wz, by_⟩, hw''⟩ := hw'
                  subst hw''
                  go_wp2
                  go_ret
                  exact ⟨ret_bool (by rw [HF.out]), bcall hbw (bcall bq (bcall hbj by_))⟩
              · have HK := hide (show a.take (k + 1) = b.take (k + 1) from HTm.out (by
                  have h5 := HJ.out
                  rw [List.take_of_length_le (by rw [HM.out]; omega), List.take_of_length_le (by rw [HMb.out]; omega)] at h5
                  exact h5))
                go_wp2
                go_roundw
                case rel => exact ⟨k + 1, by omega, by go_num, bcall hb (bcall bq hbj), HK⟩
                case measure => simp [Go.RowKit.intOf]; omega
          · have e4 : ((la.length : Int) != (lb.length : Int)) = true := by rw [bne_iff_ne]; omega
            have HF := hide (HNo.out fun h => hl2 (by rw [h]))
            clear hl2
            go_wp2
            refine wp_region_below (by kernel_rfl) (by kernel_rfl) ?_
            repeat (go_big_quiet_step (fail))
            refine wpQuiet_nil ?_
            intro wq hw'
            obtain ⟨⟨wz, bq⟩, hw''⟩ := hw'
            subst hw''
            go_wp2
            go_ret
            exact ⟨ret_bool (by rw [HF.out]), bcall hbw bq⟩
        · have HF := hide (show sameF n a n b = true from rsame_of (by
            have h5 := HT.out
            rw [List.take_of_length_le (by rw [HL.out]; omega), List.take_of_length_le (by rw [HLb.out]; omega)] at h5
            exact h5))
          go_wp2
          go_ret
          exact ⟨ret_bool (by rw [HF.out]), hbw⟩
    · have e4 : ((a.length : Int) != (b.length : Int)) = true := by rw [bne_iff_ne]; omega
      have HF := hide (show sameF n a n b = false from rsame_no fun h => hl (by rw [h.2]))
      clear hl
      go_enter Tryd.func18, Tryd.ntmps18
      go_wp2_with (rw [HE.out]; have x0 := X0.out; have x1 := X1.out; have y0 := Y0.out; have y1 := Y1.out)
      go_ret
      exact ⟨ret_bool (by rw [HF.out]), hB1⟩
  · have e4 : (n != m) = true := by rw [bne_iff_ne]; exact hnm
    have HF := hide (show sameF n a m b = false from rsame_no fun h => hnm h.1)
    clear hnm
    go_enter Tryd.func18, Tryd.ntmps18
    go_wp2_with (rw [HE.out]; have x0 := X0.out; have x1 := X1.out; have y0 := Y0.out; have y1 := Y1.out)
    go_ret
    exact ⟨ret_bool (by rw [HF.out]), hB1⟩
end Go.Proofs.YtofobjhlpgcdaaaDoor
