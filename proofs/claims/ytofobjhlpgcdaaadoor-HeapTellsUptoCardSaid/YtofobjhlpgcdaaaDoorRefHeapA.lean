/- Layer heap: the document's own answer: there, Get, Right. -/
import Derived.Test.YtofobjhlpgcdaaaDoorHeapPut
import Derived.Test.YtofobjhlpgcdaaaDoorQuietB
namespace Go.Proofs.YtofobjhlpgcdaaaDoor
open Go.RowKit

theorem hasS_no {ls : Rws} {o s : Int} (h : ¬ (1 ≤ o ∧ o ≤ ls.length ∧ 0 ≤ s ∧ s < (rowF ls o).length)) : hasS ls o s = false := by unfold hasS; rw [decide_eq_false h]
set_option maxHeartbeats 1000000 in
theorem rthere_any (n : Int) (v : Value) (ls : Rws) (o s : Int) (w : World) (h : Grid w v ls) :
    Calls Tryd.prog 22 #[hv n v, .int .i64 o, .int .i64 s] w fun e w' => e = .returned (.bool (hasS ls o s)) ∧ Below w.heap.size w w' := by
  have HG := hide h
  obtain ⟨A, c, rfl, h1, h2⟩ := h.form
  unfold maxLen at h2
  clear h
  by_cases hA : o < 1
  · have hn := hide (hasS_no (ls := ls) (o := o) (s := s) (by omega))
    have q1 : decide (1 ≤ o) = false := decide_eq_false (by omega)
    go_enter Tryd.func22, Tryd.ntmps22
    go_wp2
    go_ret
    exact ⟨ret_bool (by rw [hn.out]), bal _ _⟩
  · have q1 : decide (1 ≤ o) = true := decide_eq_true (by omega)
    by_cases hB : (ls.length : Int) < o
    · have hn := hide (hasS_no (ls := ls) (o := o) (s := s) (by omega))
      have q2 : decide (o ≤ (ls.length : Int)) = false := decide_eq_false (by omega)
      go_enter Tryd.func22, Tryd.ntmps22
      go_wp2
      go_ret
      exact ⟨ret_bool (by rw [hn.out]), bal _ _⟩
    · have q2 : decide (o ≤ (ls.length : Int)) = true := decide_eq_true (by omega)
      by_cases hC : s < 0
      · have hn := hide (hasS_no (ls := ls) (o := o) (s := s) (by omega))
        have q3 : decide (0 ≤ s) = false := decide_eq_false (by omega)
        go_enter Tryd.func22, Tryd.ntmps22
        go_wp2
        go_ret
        exact ⟨ret_bool (by rw [hn.out]), bal _ _⟩
      · have q3 : decide (0 ≤ s) = true := decide_eq_true (by omega)
        obtain ⟨k, rfl⟩ : ∃ k : Nat, o = (k : Int) + 1 := ⟨(o - 1).toNat, by omega⟩
        have hkl : k < ls.length := by omega
        obtain ⟨b, off, u, rfl, hb, hc, hr⟩ := grid_at HG.out hkl
        have hrow : rowF ls ((k : Int) + 1) = ls[k] := by rw [rowF_mem (by omega)]; simp
        obtain ⟨row, hrw⟩ : ∃ row, ls[k] = row := ⟨_, rfl⟩
        rw [hrw] at hr hrow
        obtain ⟨B, d, rfl, -, h4, -⟩ := hr
        unfold maxLen at h4
        have hS := hide (show hasS ls ((k : Int) + 1) s = decide (s < (row.length : Int)) by
          unfold hasS
          rw [hrow]
          congr 1
          apply propext
          omega)
        have cg : ∀ o', (w.alloc o').cell? ⟨b, off + k, none⟩ = some (.slice B row.length d) := fun o' => keepc (bal _ _) hc
        clear hc hrow hrw
        go_enter Tryd.func22, Tryd.ntmps22
        go_wp2
        go_ret
        exact ⟨ret_bool (by rw [hS.out]), bal _ _⟩
set_option maxHeartbeats 1000000 in
theorem rGet_any (n : Int) (v : Value) (ls : Rws) (o s : Int) (w : World) (h : Grid w v ls) :
    Calls Tryd.prog 7 #[hv n v, .int .i64 o, .int .i64 s] w fun e w' => e = .returned (.tuple #[.int .i64 (getF ls o s), .bool (hasS ls o s)]) ∧ Below w.heap.size w w' := by
  have HG := hide h
  obtain ⟨A, c, rfl, h1, h2⟩ := h.form
  unfold maxLen at h2
  clear h
  cases hs : hasS ls o s with
  | false =>
    have hg := hide (show getF ls o s = 0 by unfold getF; rw [hs]; rfl)
    have HS := hide hs
    clear hs
    go_enter Tryd.func7, Tryd.ntmps7
    go_wp2_with fail
    (with_reducible refine (rthere_any n _ ls o s _ (HG.out.alloc _)).mono ?_)
    rintro e w2 ⟨rfl, hb2⟩
    rw [HS.out]
    go_wp2
    go_ret2
    exact ⟨ret_gb hg.out.symm rfl, bcall (bal _ _) hb2⟩
  | true =>
    have h3 := hasS_iff.1 hs
    obtain ⟨k, rfl⟩ : ∃ k : Nat, o = (k : Int) + 1 := ⟨(o - 1).toNat, by omega⟩
    obtain ⟨j, rfl⟩ : ∃ j : Nat, s = (j : Int) := ⟨s.toNat, by omega⟩
    have hkl : k < ls.length := by omega
    obtain ⟨b, off, u, rfl, hb, hc, hr⟩ := grid_at HG.out hkl
    have hrow : rowF ls ((k : Int) + 1) = ls[k] := by rw [rowF_mem (by omega)]; simp
    obtain ⟨row, hrw⟩ : ∃ row, ls[k] = row := ⟨_, rfl⟩
    rw [hrw] at hr hrow
    have hjl : j < row.length := by rw [hrow] at h3; omega
    obtain ⟨B, d, rfl, -, h4, -⟩ := id hr
    unfold maxLen at h4
    obtain ⟨b2, off2, rfl, hb2, hc2⟩ := ints_at hr hjl
    obtain ⟨x, hx⟩ : ∃ x, row[j] = x := ⟨_, rfl⟩
    rw [hx] at hc2
    have hg := hide (show getF ls ((k : Int) + 1) (j : Int) = x by
      unfold getF
      rw [if_pos hs, hrow, List.getD_eq_getElem?_getD, show ((j : Int)).toNat = j by omega, List.getElem?_eq_getElem hjl, hx]; rfl)
    have HS := hide hs
    have HC := hide hc
    have HC2 := hide hc2
    clear hs hc hc2 hrow hrw hx h3 hr
    go_enter Tryd.func7, Tryd.ntmps7
    go_wp2_with fail
    (with_reducible refine (rthere_any n _ ls _ _ _ (HG.out.alloc _)).mono ?_)
    rintro e w2 ⟨rfl, hb3⟩
    rw [HS.out]
    have hbb := bcall (bal _ _) hb3
    have c1 := keepc hbb HC.out
    have c2 := keepc hbb HC2.out
    obtain ⟨-, -, x0, x1⟩ := box2 hb3
    go_wp2
    go_ret2
    exact ⟨ret_gb hg.out.symm rfl, hbb⟩
end Go.Proofs.YtofobjhlpgcdaaaDoor
