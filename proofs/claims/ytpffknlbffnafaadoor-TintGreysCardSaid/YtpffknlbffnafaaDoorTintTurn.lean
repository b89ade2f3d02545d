/- Layer tint: what turns an object. -/
import Derived.Test.YtpffknlbffnafaaDoorTintFn
import Derived.Deep.Cut
namespace Go.Proofs.YtpffknlbffnafaaDoor
open Go.RowKit

theorem keepc {a b : World} {p : Addr} {v : Value} (hb : Below a.heap.size a b) (h : a.cell? p = some v) : b.cell? p = some v := by
  rw [hb.cell (World.block_lt_of_cell? _ _ h)]; exact h
theorem keepf {a b : World} {p : Addr} {v : Value} (hb : Below a.heap.size a b) (h : a.cell? p = some v) (hf : a.frozen? p = false) : b.frozen? p = false := by
  rw [hb.frozen (World.block_lt_of_cell? _ _ h)]; exact hf
theorem bset {n : Nat} {a w : World} (h : Below n a w) (b o : Nat) (hb : n ≤ b) (v : Value) : Below n a (w.setCell ⟨b, o, none⟩ v) := h.setCell (p := ⟨b, o, none⟩) hb v
theorem box1 (w : World) (x y : Value) (t : TypeId) : ∃ w1, w.alloc (.cells #[x, y] t) = w1 ∧ Below w.heap.size w w1 ∧ w1.heap.size = w.heap.size + 1 ∧ w1.cell? ⟨w.heap.size, 0, none⟩ = some x ∧ w1.cell? ⟨w.heap.size, 1, none⟩ = some y ∧ w1.frozen? ⟨w.heap.size, 0, none⟩ = false ∧ w1.frozen? ⟨w.heap.size, 1, none⟩ = false := by
  have h0 := row_new w [x, y] t 0 x rfl
  have h1 := row_new w [x, y] t 1 y rfl
  rw [add_none] at h0 h1
  have f : ∀ j, (w.alloc (.cells #[x, y] t)).frozen? ⟨w.heap.size, j, none⟩ = false := fun j => frozen_of_row _ _ j #[x, y] t (heap_alloc_new w _)
  exact ⟨_, rfl, bal _ _, by simp, h0, h1, f 0, f 1⟩
theorem box3 (w : World) (x y p q : Value) (t : TypeId) : ∃ w1, (w.alloc (.cells #[x, y] t)).alloc (.cells #[p, q] t) = w1 ∧ Below w.heap.size w w1 ∧ w1.heap.size = w.heap.size + 2 ∧ w1.cell? ⟨w.heap.size, 0, none⟩ = some x ∧ w1.cell? ⟨w.heap.size, 1, none⟩ = some y ∧
    w1.cell? ⟨w.heap.size + 1, 0, none⟩ = some p ∧ w1.cell? ⟨w.heap.size + 1, 1, none⟩ = some q ∧ w1.frozen? ⟨w.heap.size, 0, none⟩ = false ∧ w1.frozen? ⟨w.heap.size, 1, none⟩ = false ∧ w1.frozen? ⟨w.heap.size + 1, 0, none⟩ = false ∧ w1.frozen? ⟨w.heap.size + 1, 1, none⟩ = false := by
  obtain ⟨w0, e0, hB, hs0, c0, c1, f0, f1⟩ := box1 w x y t
  obtain ⟨w1, e1, hB1, hs1, d0, d1, g0, g1⟩ := box1 w0 p q t
  rw [hs0] at d0 d1 g0 g1
  exact ⟨w1, by rw [e0, e1], bcall hB hB1, by omega, keepc hB1 c0, keepc hB1 c1, d0, d1, keepf hB1 c0 f0, keepf hB1 c1 f1, g0, g1⟩
theorem ret_tb {a b : Value} {c d : Bool} (h : a = b) (k : c = d) : Ending.returned (.tuple #[a, .bool c]) = .returned (.tuple #[b, .bool d]) := by rw [h, k]
theorem tv_eq {a b c d : Nat} (h : a = c) (k : b = d) : tv a b = tv c d := by rw [h, k]
theorem scan_no {m b : Nat} {o : Int} (h : tOf m b o ≠ 1) : scB m b o = b ∧ tGrey m b o = false := by
  have : tGrey m b o = false := by rw [grey_one, decide_eq_false h]
  exact ⟨by unfold scB; rw [this]; rfl, this⟩
theorem scan_yes {m b : Nat} {o : Int} (h : tOf m b o = 1) : scB m b o = addF b o ∧ tGrey m b o = true := by
  have : tGrey m b o = true := by rw [grey_one, decide_eq_true h]
  exact ⟨by unfold scB; rw [this]; rfl, this⟩
theorem free_yes {m b : Nat} {o : Int} (h : tFree m b o = true) : shM m b o = addF m o ∧ frB m b o = addF b o := by unfold shM frB; rw [h]; exact ⟨rfl, rfl⟩
set_option maxHeartbeats 2000000 in
theorem Shade_any (m b : Nat) (o : Int) (hm : m < 18446744073709551616) (hb : b < 18446744073709551616) (h0 : -9223372036854775808 ≤ o) (h1 : o ≤ 9223372036854775807) (w : World) :
    Calls Tryd.prog 11 #[tv m b, .int .i64 o] w fun e w' => e = .returned (.tuple #[tv (shM m b o) b, .bool (tFree m b o)]) ∧ Below w.heap.size w w' := by
  obtain ⟨w1, ew, hB1, hS1, k0, k1, k2, k3, f0, f1, f2, f3⟩ := box3 w (.int .u64 m) (.int .u64 b) (.int .u64 0) (.int .u64 0) 25
  have HE := hide ew
  clear ew
  cases hF : tFree m b o
  · have H := hide hF
    have E := hide (free_no hF)
    clear hF
    go_enter Tryd.func11, Tryd.ntmps11
    go_wp2_with fail
    rw [HE.out]
    (with_reducible refine (untouched_any m b o hm hb h0 h1 _).mono ?_)
    rintro e w2 ⟨rfl, hb2⟩
    have c0 := keepc hb2 k0
    have c1 := keepc hb2 k1
    have r0 := keepc hb2 k2
    have r1 := keepc hb2 k3
    have y0 := keepf hb2 k0 f0
    have y1 := keepf hb2 k1 f1
    have z0 := keepf hb2 k2 f2
    have z1 := keepf hb2 k3 f3
    have hB2 := bcall hB1 hb2
    clear hb2 k0 k1 k2 k3 f0 f1 f2 f3
    rw [H.out]
    go_wp2
    refine bodyPost_ret (v := .tuple #[tv m b, .bool false]) (by simp [results, Tryd.results11, go_sem, r0, r1]) rfl ⟨?_, by repeat (first | (with_reducible exact hB2) | (with_reducible refine bset ?_ _ _ (by omega) _) | (with_reducible refine Below.drew ?_))⟩
    exact ret_tb (tv_eq E.out.1.symm rfl) rfl
  · have H := hide hF
    have E := hide (free_yes hF)
    clear hF
    go_enter Tryd.func11, Tryd.ntmps11
    go_wp2_with fail
    rw [HE.out]
    (with_reducible refine (untouched_any m b o hm hb h0 h1 _).mono ?_)
    rintro e w2 ⟨rfl, hb2⟩
    have c0 := keepc hb2 k0
    have c1 := keepc hb2 k1
    have r0 := keepc hb2 k2
    have r1 := keepc hb2 k3
    have y0 := keepf hb2 k0 f0
    have y1 := keepf hb2 k1 f1
    have z0 := keepf hb2 k2 f2
    have z1 := keepf hb2 k3 f3
    have hB2 := bcall hB1 hb2
    clear hb2 k0 k1 k2 k3 f0 f1 f2 f3
    rw [H.out]
    go_wp2_with fail
    (with_reducible refine (Add_any m o _ hm h0 h1).mono ?_)
    rintro e _ ⟨rfl, rfl⟩
    go_wp2
    refine bodyPost_ret (v := .tuple #[tv (addF m o) b, .bool true]) (by simp [results, Tryd.results11, go_sem, r0, r1]) rfl ⟨?_, by repeat (first | (with_reducible exact hB2) | (with_reducible refine bset ?_ _ _ (by omega) _) | (with_reducible refine Below.drew ?_))⟩
    exact ret_tb (tv_eq E.out.1.symm rfl) rfl
set_option maxHeartbeats 2000000 in
theorem Scan_any (m b : Nat) (o : Int) (hm : m < 18446744073709551616) (hb : b < 18446744073709551616) (h0 : -9223372036854775808 ≤ o) (h1 : o ≤ 9223372036854775807) (w : World) :
    Calls Tryd.prog 13 #[tv m b, .int .i64 o] w fun e w' => e = .returned (.tuple #[tv m (scB m b o), .bool (tGrey m b o)]) ∧ Below w.heap.size w w' := by
  obtain ⟨w1, ew, hB1, hS1, k0, k1, k2, k3, f0, f1, f2, f3⟩ := box3 w (.int .u64 m) (.int .u64 b) (.int .u64 0) (.int .u64 0) 25
  have HE := hide ew
  clear ew
  by_cases hF : tOf m b o = 1
  · have H := hide hF
    have E := hide (scan_yes hF)
    clear hF
    go_enter Tryd.func13, Tryd.ntmps13
    go_wp2_with fail
    rw [HE.out]
    (with_reducible refine (Of_any m b o hm hb h0 h1 _).mono ?_)
    rintro e w2 ⟨rfl, hb2⟩
    have c0 := keepc hb2 k0
    have c1 := keepc hb2 k1
    have r0 := keepc hb2 k2
    have r1 := keepc hb2 k3
    have y0 := keepf hb2 k0 f0
    have y1 := keepf hb2 k1 f1
    have z0 := keepf hb2 k2 f2
    have z1 := keepf hb2 k3 f3
    have hB2 := bcall hB1 hb2
    clear hb2 k0 k1 k2 k3 f0 f1 f2 f3
    rw [H.out]
    go_wp2_with fail
    (with_reducible refine (Add_any b o _ hb h0 h1).mono ?_)
    rintro e _ ⟨rfl, rfl⟩
    go_wp2
    refine bodyPost_ret (v := .tuple #[tv m (addF b o), .bool true]) (by simp [results, Tryd.results13, go_sem, r0, r1]) rfl ⟨?_, by repeat (first | (with_reducible exact hB2) | (with_reducible refine bset ?_ _ _ (by omega) _) | (with_reducible refine Below.drew ?_))⟩
    exact ret_tb (tv_eq rfl E.out.1.symm) E.out.2.symm
  · have q : (tOf m b o != 1) = true := by rw [bne_iff_ne]; exact hF
    have E := hide (scan_no hF)
    clear hF
    go_enter Tryd.func13, Tryd.ntmps13
    go_wp2_with fail
    rw [HE.out]
    (with_reducible refine (Of_any m b o hm hb h0 h1 _).mono ?_)
    rintro e w2 ⟨rfl, hb2⟩
    have c0 := keepc hb2 k0
    have c1 := keepc hb2 k1
    have r0 := keepc hb2 k2
    have r1 := keepc hb2 k3
    have y0 := keepf hb2 k0 f0
    have y1 := keepf hb2 k1 f1
    have z0 := keepf hb2 k2 f2
    have z1 := keepf hb2 k3 f3
    have hB2 := bcall hB1 hb2
    clear hb2 k0 k1 k2 k3 f0 f1 f2 f3
    go_wp2
    refine bodyPost_ret (v := .tuple #[tv m b, .bool false]) (by simp [results, Tryd.results13, go_sem, r0, r1]) rfl ⟨?_, by repeat (first | (with_reducible exact hB2) | (with_reducible refine bset ?_ _ _ (by omega) _) | (with_reducible refine Below.drew ?_))⟩
    exact ret_tb (tv_eq rfl E.out.1.symm) E.out.2.symm
set_option maxHeartbeats 4000000 in
theorem Fresh_any (m b : Nat) (o : Int) (hm : m < 18446744073709551616) (hb : b < 18446744073709551616) (h0 : -9223372036854775808 ≤ o) (h1 : o ≤ 9223372036854775807) (w : World) :
    Calls Tryd.prog 15 #[tv m b, .int .i64 o] w fun e w' => e = .returned (.tuple #[tv (shM m b o) (frB m b o), .bool (tFree m b o)]) ∧ Below w.heap.size w w' := by
  obtain ⟨w1, ew, hB1, hS1, k0, k1, k2, k3, f0, f1, f2, f3⟩ := box3 w (.int .u64 m) (.int .u64 b) (.int .u64 0) (.int .u64 0) 25
  have HE := hide ew
  clear ew
  cases hF : tFree m b o
  · have H := hide hF
    have E := hide (free_no hF)
    clear hF
    go_enter Tryd.func15, Tryd.ntmps15
    go_wp2_with fail
    rw [HE.out]
    (with_reducible refine (untouched_any m b o hm hb h0 h1 _).mono ?_)
    rintro e w2 ⟨rfl, hb2⟩
    have c0 := keepc hb2 k0
    have c1 := keepc hb2 k1
    have r0 := keepc hb2 k2
    have r1 := keepc hb2 k3
    have y0 := keepf hb2 k0 f0
    have y1 := keepf hb2 k1 f1
    have z0 := keepf hb2 k2 f2
    have z1 := keepf hb2 k3 f3
    have hB2 := bcall hB1 hb2
    clear hb2 k0 k1 k2 k3 f0 f1 f2 f3
    rw [H.out]
    go_wp2
    refine bodyPost_ret (v := .tuple #[tv m b, .bool false]) (by simp [results, Tryd.results15, go_sem, r0, r1]) rfl ⟨?_, by repeat (first | (with_reducible exact hB2) | (with_reducible refine bset ?_ _ _ (by omega) _) | (with_reducible refine Below.drew ?_))⟩
    exact ret_tb (tv_eq E.out.1.symm E.out.2.symm) rfl
  · have H := hide hF
    have E := hide (free_yes hF)
    clear hF
    go_enter Tryd.func15, Tryd.ntmps15
    go_wp2_with fail
    rw [HE.out]
    (with_reducible refine (untouched_any m b o hm hb h0 h1 _).mono ?_)
    rintro e w2 ⟨rfl, hb2⟩
    have c0 := keepc hb2 k0
    have c1 := keepc hb2 k1
    have r0 := keepc hb2 k2
    have r1 := keepc hb2 k3
    have y0 := keepf hb2 k0 f0
    have y1 := keepf hb2 k1 f1
    have z0 := keepf hb2 k2 f2
    have z1 := keepf hb2 k3 f3
    have hB2 := bcall hB1 hb2
    clear hb2 k0 k1 k2 k3 f0 f1 f2 f3
    rw [H.out]
    go_upto_region 3 with (fail)
    go_region_law ((go_simp; go_at_call 32; (first | (with_reducible refine (Add_any m o _ hm h0 h1).mono ?_) | (with_reducible refine (Add_any b o _ hb h0 h1).mono ?_)); rintro e _ ⟨rfl, rfl⟩))
    all_goals go_wp2
    all_goals (refine bodyPost_ret (v := .tuple #[tv (addF m o) (addF b o), .bool true]) (by simp [results, Tryd.results15, go_sem, r0, r1]) rfl ⟨?_, by repeat (first | (with_reducible exact hB2) | (with_reducible refine bset ?_ _ _ (by omega) _) | (with_reducible refine Below.drew ?_))⟩; exact ret_tb (tv_eq E.out.1.symm E.out.2.symm) rfl)
end Go.Proofs.YtpffknlbffnafaaDoor
