/- Layer heap: Right, Same. -/
import Derived.Test.YtofobjhlpgcdaaaDoorHeapScal
namespace Go.Proofs.YtofobjhlpgcdaaaDoor
open Go.RowKit

/-- a boxed parameter, at once -/
theorem box1 (w : World) (x y : Value) (t : TypeId) : ∃ w1, w.alloc (.cells #[x, y] t) = w1 ∧ Below w.heap.size w w1 ∧ w.heap.size < w1.heap.size ∧ (∀ b, b < w.heap.size → b < w1.heap.size) ∧ w1.cell? ⟨w.heap.size, 0, none⟩ = some x ∧ w1.cell? ⟨w.heap.size, 1, none⟩ = some y := by
  obtain ⟨a, b, c, d⟩ := box2 (Below.refl (w.alloc (.cells #[x, y] t)).heap.size (w.alloc (.cells #[x, y] t)))
  exact ⟨_, rfl, a, b, fun _ h => by omega, c, d⟩
theorem right_false {n : Int} {ls : Rws} (h : ¬ (1 ≤ n ∧ n ≤ 4 ∧ ls.length ≤ 64)) : rightF n ls = false := by
  unfold rightF; rw [decide_eq_false h]; rfl
theorem all_snoc {α : Type} (p : α → Bool) (l : List α) (k : Nat) (h : k < l.length) : (l.take (k + 1)).all p = ((l.take k).all p && p l[k]) := by
  rw [List.take_succ_eq_append_getElem h, List.all_append]; simp
theorem all_false {α : Type} (p : α → Bool) (l : List α) (k : Nat) (h : k < l.length) (hp : p l[k] = false) : l.all p = false := by
  rw [List.all_eq_false]
  exact ⟨l[k], List.getElem_mem h, by simp [hp]⟩
theorem right_row_false {n : Int} {ls : Rws} (k : Nat) (h : k < ls.length) (hp : rowOk n ls.length ls[k] = false) : rightF n ls = false := by
  unfold rightF; rw [all_false _ _ k h hp, Bool.and_false]

set_option maxHeartbeats 2000000 in
theorem Right_any (n : Int) (v : Value) (ls : Rws) (w : World) (h : Grid w v ls) :
    Calls Tryd.prog 15 #[hv n v] w fun e w' => e = .returned (.bool (rightF n ls)) ∧ Below w.heap.size w w' := by
  have HG := hide h
  obtain ⟨A, c, rfl, h1, h2⟩ := h.form
  unfold maxLen at h2
  clear h
  by_cases hA : 1 ≤ n ∧ n ≤ 4 ∧ ls.length ≤ 64
  · have hR := hide (show rightF n ls = ls.all (rowOk n ls.length) by unfold rightF; rw [decide_eq_true hA, Bool.true_and])
    obtain ⟨a1, a2, a3⟩ := hA
    obtain ⟨w1, ew, hB1, hlt1, hold, k0, k1⟩ := box1 w (.int .i64 n) (.slice A ls.length c) 24
    have HE := hide ew
    have HG1 := hide (HG.out.below hB1)
    clear ew
    go_enter Tryd.func15, Tryd.ntmps15
    go_wp2
    rw [HE.out]
    clear HE
    go_loopw [24] (fun i wr => ∃ k : Nat, k ≤ ls.length ∧ i = .int .i64 k ∧ Below w1.heap.size w1 wr ∧ Hid ((ls.take k).all (rowOk n ls.length) = true)) (fun i _ => ls.length - (Go.RowKit.intOf i).toNat)
    case atStart => exact ⟨0, Nat.zero_le _, rfl, Below.refl _ _, hide (by simp)⟩
    case round =>
      obtain ⟨k, hk, rfl, hb, HA⟩ := hrel
      have c0 := ((bcell hb).1 _ 0 hlt1).trans k0
      have c1 := ((bcell hb).1 _ 1 hlt1).trans k1
      by_cases hlt : k < ls.length
      · obtain ⟨b, off, u, rfl, hbw, hc, hr⟩ := grid_at (HG1.out.below hb) hlt
        have HR := hide hr
        obtain ⟨B, d, rfl, h3, h4, -⟩ := hr
        unfold maxLen at h4
        by_cases hn : ((ls[k]).length : Int) = n
        · have e1 : (((ls[k]).length : Int) != n) = false := by rw [bne_eq_false_iff_eq]; exact hn
          have hr' := HR.out
          obtain ⟨l, hl⟩ : ∃ l, ls[k] = l := ⟨_, rfl⟩
          have HL := hide hl
          rw [hl] at hr' hn h3 e1 hc
          have HN := hide hn
          obtain ⟨m, hm⟩ : ∃ m, l.length = m := ⟨_, rfl⟩
          have HM := hide hm
          rw [hm] at hr' h3 e1 hc hn
          clear hl hn hm HR
          go_wp2
          have HBr := hide hr'
          go_loopw [35] (fun i wi => ∃ j : Nat, j ≤ m ∧ i = .int .i64 j ∧ Below wr.heap.size wr wi ∧ Hid ((l.take j).all (fun v => decide (0 ≤ v ∧ v ≤ ls.length)) = true)) (fun i _ => m - (Go.RowKit.intOf i).toNat)
          case atStart => exact ⟨0, Nat.zero_le _, rfl, Below.refl _ _, hide (by simp)⟩
          case round =>
            obtain ⟨j, hj, rfl, hbi, HI⟩ := hrel
            have hsz := hb.size
            have hsi := hbi.size
            have d0 := ((bcell hbi).1 _ 0 (Nat.lt_of_lt_of_le hlt1 hsz)).trans c0
            have d1 := ((bcell hbi).1 _ 1 (Nat.lt_of_lt_of_le hlt1 hsz)).trans c1
            have hb2 := bcall hb hbi
            by_cases hlj : j < m
            · have hlj2 : j < l.length := by rw [HM.out]; exact hlj
              obtain ⟨b2, off2, rfl, hbw2, hc2⟩ := ints_at (HBr.out.below hbi) hlj2
              have hsn := all_snoc (fun v => decide (0 ≤ v ∧ v ≤ (ls.length : Int))) l j hlj2
              rw [HI.out, Bool.true_and] at hsn
              obtain ⟨x, hx⟩ : ∃ x, l[j] = x := ⟨_, rfl⟩
              rw [hx] at hc2 hsn
              have HX := hide hx
              have HS := hide hsn
              have hGi := hide (HG1.out.below hb2)
              clear hx hsn
              by_cases hm : mayF ls x = true
              · have HH := hide hm
                clear hm
                go_wp2_with fail
                (with_reducible refine (mayHold_any _ _ ls _ _ hGi.out).mono ?_)
                rintro e w5 ⟨rfl, hb5⟩
                rw [HH.out]
                go_wp2
                go_roundw
                case rel => exact ⟨j + 1, by omega, by go_num, bcall hbi hb5, hide (by rw [HS.out]; exact HH.out)⟩
                case measure => simp [Go.RowKit.intOf]; omega
              · have HH := hide (show mayF ls x = false by simpa using hm)
                clear hm
                go_wp2_with fail
                (with_reducible refine (mayHold_any _ _ ls _ _ hGi.out).mono ?_)
                rintro e w5 ⟨rfl, hb5⟩
                rw [HH.out]
                go_wp2
                go_ret
                refine ⟨ret_bool (Eq.symm (right_row_false k hlt ?_)), bcall hB1 (bcall hb2 hb5)⟩
                rw [HL.out]
                unfold rowOk
                rw [all_false _ l j hlj2 (by rw [HX.out]; exact HH.out), Bool.and_false]
            · go_wp2
              go_roundw
              case rel =>
                refine ⟨k + 1, by omega, by go_num, hb2, hide ?_⟩
                rw [all_snoc _ ls k hlt, HA.out, Bool.true_and, HL.out]
                unfold rowOk
                rw [Bool.and_eq_true]
                refine ⟨decide_eq_true HN.out, ?_⟩
                have := HI.out
                rwa [List.take_of_length_le (by have := HM.out; omega)] at this
              case measure => simp [Go.RowKit.intOf]; omega
        · have e1 : (((ls[k]).length : Int) != n) = true := by rw [bne_iff_ne]; exact hn
          have HF := hide (right_row_false (n := n) k hlt (by unfold rowOk; rw [decide_eq_false hn]; rfl))
          generalize (ls[k]).length = m at *
          clear hn
          go_wp2
          go_ret
          exact ⟨ret_bool HF.out.symm, bcall hB1 hb⟩
      · go_wp2
        go_ret
        refine ⟨ret_bool (Eq.symm ?_), bcall hB1 hb⟩
        rw [hR.out, ← HA.out, List.take_of_length_le (by omega)]
  · have hF := hide (right_false hA)
    obtain ⟨w1, ew, hB1, -⟩ := box1 w (.int .i64 n) (.slice A ls.length c) 24
    have HB := hide (show Below w.heap.size w (w.alloc (.cells #[.int .i64 n, .slice A ls.length c] 24)) from bal _ _)
    clear ew hB1
    by_cases b1 : 1 ≤ n
    · by_cases b2 : n ≤ 4
      · have b3 : ¬ ((ls.length : Int) ≤ 64) := fun h => hA ⟨b1, b2, by omega⟩
        clear hA
        go_enter Tryd.func15, Tryd.ntmps15
        go_wp2
        go_ret
        exact ⟨ret_bool hF.out.symm, HB.out⟩
      · clear hA
        go_enter Tryd.func15, Tryd.ntmps15
        go_wp2
        go_ret
        exact ⟨ret_bool hF.out.symm, HB.out⟩
    · clear hA
      go_enter Tryd.func15, Tryd.ntmps15
      go_wp2
      go_ret
      exact ⟨ret_bool hF.out.symm, HB.out⟩
end Go.Proofs.YtofobjhlpgcdaaaDoor
