/- Layer heap: the document's own answer: Right. -/
import Derived.Test.YtofobjhlpgcdaaaDoorRefHeapA
namespace Go.Proofs.YtofobjhlpgcdaaaDoor
open Go.RowKit

def slotOk (k : Nat) (v : Int) : Bool := decide (0 ≤ v ∧ v ≤ k)
theorem rowOk_of {n : Int} {k : Nat} {l : List Int} (h : (l.length : Int) = n) (h2 : l.all (slotOk k) = true) : rowOk n k l = true := by
  unfold rowOk; rw [decide_eq_true h, Bool.true_and]; exact h2
theorem rowOk_len {n : Int} {k : Nat} {l : List Int} (h : ¬ (l.length : Int) = n) : rowOk n k l = false := by unfold rowOk; rw [decide_eq_false h]; rfl
theorem rowOk_bad {n : Int} {k : Nat} {l : List Int} (j : Nat) (hj : j < l.length) (h : slotOk k l[j] = false) : rowOk n k l = false := by
  unfold rowOk
  have := all_false (slotOk k) l j hj h
  unfold slotOk at this
  rw [this, Bool.and_false]
set_option maxRecDepth 100000 in
set_option maxHeartbeats 4000000 in
theorem rRight_any (n : Int) (v : Value) (ls : Rws) (w : World) (h : Grid w v ls) :
    Calls Tryd.prog 16 #[hv n v] w fun e w' => e = .returned (.bool (rightF n ls)) ∧ Below w.heap.size w w' := by
  have HG := hide h
  obtain ⟨A, c, rfl, h1, h2⟩ := h.form
  unfold maxLen at h2
  clear h
  by_cases hA : 1 ≤ n ∧ n ≤ 4 ∧ ls.length ≤ 64
  · have hR := hide (show rightF n ls = ls.all (rowOk n ls.length) by unfold rightF; rw [decide_eq_true hA, Bool.true_and])
    obtain ⟨a1, a2, a3⟩ := hA
    have q1 : decide (n < 1) = false := decide_eq_false (by omega)
    have q2 : decide (4 < n) = false := decide_eq_false (by omega)
    have q3 : decide (64 < (ls.length : Int)) = false := decide_eq_false (by omega)
    obtain ⟨w1, ew, hB1, hlt1, hold, k0, k1⟩ := box1 w (.int .i64 n) (.slice A ls.length c) 26
    have HE := hide ew
    have HG1 := hide (HG.out.below hB1)
    clear ew
    go_enter Tryd.func16, Tryd.ntmps16
    go_wp2
    rw [HE.out]
    clear HE
    go_loopw [3] (fun i wi => ∃ k : Nat, k ≤ ls.length ∧ i = .int .i64 k ∧ Below w1.heap.size w1 wi ∧ Hid ((ls.take k).all (rowOk n ls.length) = true)) (fun i _ => ls.length - (Go.RowKit.intOf i).toNat)
    case atStart => exact ⟨0, Nat.zero_le _, rfl, Below.refl _ _, hide (by simp)⟩
    case round =>
      obtain ⟨k, hk, rfl, hb, HA⟩ := hrel
      have c0 := ((bcell hb).1 _ 0 hlt1).trans k0
      have c1 := ((bcell hb).1 _ 1 hlt1).trans k1
      by_cases hlt : k < ls.length
      · obtain ⟨b, off, u, rfl, hbw, hc, hr⟩ := grid_at (HG1.out.below hb) hlt
        obtain ⟨l, hl⟩ : ∃ l, ls[k] = l := ⟨_, rfl⟩
        rw [hl] at hr
        have HL := hide hl
        have HR := hide hr
        obtain ⟨B, d, rfl, h3, h4, -⟩ := hr
        unfold maxLen at h4
        have c0q : ∀ p : BW wr, p.w.cell? ⟨w.heap.size, 0, none⟩ = some (.int .i64 n) := fun p => keepc p.b c0
        have c1q : ∀ p : BW wr, p.w.cell? ⟨w.heap.size, 1, none⟩ = some (.slice (some ⟨b, off, none⟩) ls.length c) := fun p => keepc p.b c1
        have cgq : ∀ p : BW wr, p.w.cell? ⟨b, off + k, none⟩ = some (.slice B l.length d) := fun p => keepc p.b hc
        clear hl
        by_cases hn : (l.length : Int) = n
        · have HN := hide hn
          have e1 : ((l.length : Int) != n) = false := by rw [bne_eq_false_iff_eq]; exact hn
          obtain ⟨m, hm⟩ : ∃ m, l.length = m := ⟨_, rfl⟩
          rw [hm] at HN HR h3 e1 cgq
          have HM := hide hm
          clear hn hm
          go_wp2
          refine wp_region_below (by kernel_rfl) (by kernel_rfl) ?_
          repeat (go_big_quiet_step (fail))
          refine wpQuiet_nil ?_
          intro wq hw'
          obtain ⟨⟨wz, bq⟩, hw''⟩ := hw'
          subst hw''
          rw [HM.out] at hc
          have d0 := keepc bq c0
          have d1 := keepc bq c1
          have dg := keepc bq hc
          have HRq := hide (HR.out.below bq)
          clear c0q c1q cgq c0 c1 hc
          go_wp2
          go_loopw [4] (fun i wi => ∃ j : Nat, j ≤ m ∧ i = .int .i64 j ∧ Below wq.heap.size wq wi ∧ Hid ((l.take j).all (slotOk ls.length) = true)) (fun i _ => m - (Go.RowKit.intOf i).toNat)
          case atStart => exact ⟨0, Nat.zero_le _, rfl, Below.refl _ _, hide (by simp)⟩
          case round =>
            obtain ⟨j, hj, rfl, hbj, HJ⟩ := hrel
            have c0 := keepc hbj d0
            have c1 := keepc hbj d1
            have cg := keepc hbj dg
            by_cases hlj : j < m
            · have hjl : j < l.length := by rw [HM.out]; exact hlj
              obtain ⟨b2, off2, rfl, -, hx⟩ := ints_at (HRq.out.below hbj) hjl
              have HS := hide (all_snoc (slotOk ls.length) l j hjl)
              have HBad := hide (fun h => rowOk_bad (n := n) (k := ls.length) (l := l) j hjl h)
              obtain ⟨x, hxx⟩ : ∃ x, l[j] = x := ⟨_, rfl⟩
              rw [hxx] at hx HS HBad
              have c1q : ∀ p : BW wr, p.w.cell? ⟨w.heap.size, 1, none⟩ = some (.slice (some ⟨b, off, none⟩) ls.length c) := fun p => keepc p.b c1
              have cgq : ∀ p : BW wr, p.w.cell? ⟨b, off + k, none⟩ = some (.slice (some ⟨b2, off2, none⟩) m d) := fun p => keepc p.b cg
              have cxq : ∀ p : BW wr, p.w.cell? ⟨b2, off2 + j, none⟩ = some (.int .i64 x) := fun p => keepc p.b hx
              clear hxx hjl
              by_cases hx0 : x < 0
              · have q4 : decide (x < 0) = true := decide_eq_true hx0
                have HF := hide (show rightF n ls = false from right_row_false k hlt (by rw [HL.out]; exact HBad.out (by unfold slotOk; rw [decide_eq_false]; omega)))
                clear hx0
                go_wp2
                refine wp_region_below (by kernel_rfl) (by kernel_rfl) ?_
                repeat (go_big_quiet_step (fail))
                refine wpQuiet_nil ?_
                intro wy hw'
                obtain ⟨⟨wz, by_⟩, hw''⟩ := hw'
                subst hw''
                go_wp2
                go_ret
                exact ⟨ret_bool (by rw [HF.out]), bcall hB1 (bcall hb (bcall bq (bcall hbj by_)))⟩
              · have q4 : decide (x < 0) = false := decide_eq_false hx0
                by_cases hx1 : (ls.length : Int) < x
                · have q5 : decide ((ls.length : Int) < x) = true := decide_eq_true hx1
                  have HF := hide (show rightF n ls = false from right_row_false k hlt (by rw [HL.out]; exact HBad.out (by unfold slotOk; rw [decide_eq_false]; omega)))
                  clear hx0 hx1
                  go_wp2
                  refine wp_region_below (by kernel_rfl) (by kernel_rfl) ?_
                  repeat (go_big_quiet_step (fail))
                  refine wpQuiet_nil ?_
                  intro wy hw'
                  obtain ⟨⟨wz, by_⟩, hw''⟩ := hw'
                  subst hw''
                  go_wp2
                  go_ret
                  exact ⟨ret_bool (by rw [HF.out]), bcall hB1 (bcall hb (bcall bq (bcall hbj by_)))⟩
                · have q5 : decide ((ls.length : Int) < x) = false := decide_eq_false hx1
                  have HK := hide (show slotOk ls.length x = true by unfold slotOk; rw [decide_eq_true]; omega)
                  clear hx0 hx1
                  go_wp2
                  refine wp_region_below (by kernel_rfl) (by kernel_rfl) ?_
                  repeat (go_big_quiet_step (fail))
                  refine wpQuiet_nil ?_
                  intro wy hw'
                  obtain ⟨⟨wz, by_⟩, hw''⟩ := hw'
                  subst hw''
                  go_wp2
                  go_roundw
                  case rel => exact ⟨j + 1, by omega, by go_num, bcall hbj by_, hide (by rw [HS.out, HJ.out, HK.out]; rfl)⟩
                  case measure => simp [Go.RowKit.intOf]; omega
            · have HK := hide (show (ls.take (k + 1)).all (rowOk n ls.length) = true by
                have h5 := HJ.out
                rw [List.take_of_length_le (by rw [HM.out]; omega)] at h5
                rw [all_snoc _ _ _ hlt, HA.out, HL.out, rowOk_of (by rw [HM.out]; exact HN.out) h5]; rfl)
              go_wp2
              go_roundw
              case rel => exact ⟨k + 1, by omega, by go_num, bcall hb (bcall bq hbj), HK⟩
              case measure => simp [Go.RowKit.intOf]; omega
        · have e1 : ((l.length : Int) != n) = true := by rw [bne_iff_ne]; exact hn
          have HF := hide (show rightF n ls = false from right_row_false k hlt (by rw [HL.out]; exact rowOk_len hn))
          clear hn
          go_wp2
          refine wp_region_below (by kernel_rfl) (by kernel_rfl) ?_
          repeat (go_big_quiet_step (fail))
          refine wpQuiet_nil ?_
          intro wq hw'
          obtain ⟨⟨wz, bq⟩, hw''⟩ := hw'
          subst hw''
          go_wp2
          go_ret
          exact ⟨ret_bool (by rw [HF.out]), bcall hB1 (bcall hb bq)⟩
      · have HK := hide (show rightF n ls = true by
          have h5 := HA.out
          rw [List.take_of_length_le (by omega)] at h5
          rw [hR.out]; exact h5)
        go_wp2
        go_ret
        exact ⟨ret_bool (by rw [HK.out]), bcall hB1 hb⟩
  · have HF := hide (right_false hA)
    by_cases hA1 : n < 1
    · have q1 : decide (n < 1) = true := decide_eq_true hA1
      go_enter Tryd.func16, Tryd.ntmps16
      go_wp2
      go_ret
      exact ⟨ret_bool (by rw [HF.out]), bal _ _⟩
    · have q1 : decide (n < 1) = false := decide_eq_false hA1
      by_cases hA2 : 4 < n
      · have q2 : decide (4 < n) = true := decide_eq_true hA2
        go_enter Tryd.func16, Tryd.ntmps16
        go_wp2
        go_ret
        exact ⟨ret_bool (by rw [HF.out]), bal _ _⟩
      · have q2 : decide (4 < n) = false := decide_eq_false hA2
        have q3 : decide (64 < (ls.length : Int)) = true := decide_eq_true (by omega)
        go_enter Tryd.func16, Tryd.ntmps16
        go_wp2
        go_ret
        exact ⟨ret_bool (by rw [HF.out]), bal _ _⟩
end Go.Proofs.YtofobjhlpgcdaaaDoor
