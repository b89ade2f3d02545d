/- Layer tint: what leads from one to the other. -/
import Derived.Test.YtpffknlbffnafaaDoorTintTurn
namespace Go.Proofs.YtpffknlbffnafaaDoor
open Go.RowKit
theorem box2t (w : World) (x y p q : Value) (t : TypeId) : ∃ w1, (w.alloc (.cells #[x, y] t)).alloc (.cells #[p, q] t) = w1 ∧ Below w.heap.size w w1 ∧ w1.heap.size = w.heap.size + 2 ∧ w1.cell? ⟨w.heap.size, 0, none⟩ = some x ∧ w1.cell? ⟨w.heap.size, 1, none⟩ = some y ∧
    w1.cell? ⟨w.heap.size + 1, 0, none⟩ = some p ∧ w1.cell? ⟨w.heap.size + 1, 1, none⟩ = some q := by
  obtain ⟨w1, a, b, c, d, e, f, g, -, -, -, -⟩ := box3 w x y p q t
  exact ⟨w1, a, b, c, d, e, f, g⟩
set_option maxHeartbeats 4000000 in
theorem turned_any (m b p q : Nat) (o : Int) (hm : m < 18446744073709551616) (hb : b < 18446744073709551616) (h0 : -9223372036854775808 ≤ o) (h1 : o ≤ 9223372036854775807) (w : World) :
    Calls Tryd.prog 35 #[tv m b, tv p q, .int .i64 o] w fun e w' => e = .returned (.int .i64 (tTurned m b p q o)) ∧ Below w.heap.size w w' := by
  have gT := guardT
  obtain ⟨w0, e0, hB, hs0, a0, a1, b0, b1⟩ := box2t w (.int .u64 m) (.int .u64 b) (.int .u64 p) (.int .u64 q) 25
  have HE0 := hide e0
  clear e0
  go_enter Tryd.func35, Tryd.ntmps35
  go_wp2_with fail
  rw [HE0.out]
  (with_reducible refine (Shade_any m b o hm hb h0 h1 _).mono ?_)
  rintro e w1 ⟨rfl, hb1⟩
  replace a0 := keepc hb1 a0
  replace a1 := keepc hb1 a1
  replace b0 := keepc hb1 b0
  replace b1 := keepc hb1 b1
  replace hB := bcall hB hb1
  have hs1 := hb1.size
  clear hb1
  obtain ⟨w2, e2, hb2, hs2, c0, c1, -, -⟩ := box1 w1 (.int .u64 (shM m b o)) (.int .u64 b) 25
  have HE2 := hide e2
  clear e2
  have A_a0 : ∀ ob, (w1.alloc ob).cell? ⟨w.heap.size, 0, none⟩ = some (.int .u64 m) := fun _ => keepc (bal _ _) a0
  replace a0 := keepc hb2 a0
  have A_a1 : ∀ ob, (w1.alloc ob).cell? ⟨w.heap.size, 1, none⟩ = some (.int .u64 b) := fun _ => keepc (bal _ _) a1
  replace a1 := keepc hb2 a1
  have A_b0 : ∀ ob, (w1.alloc ob).cell? ⟨w.heap.size + 1, 0, none⟩ = some (.int .u64 p) := fun _ => keepc (bal _ _) b0
  replace b0 := keepc hb2 b0
  have A_b1 : ∀ ob, (w1.alloc ob).cell? ⟨w.heap.size + 1, 1, none⟩ = some (.int .u64 q) := fun _ => keepc (bal _ _) b1
  replace b1 := keepc hb2 b1
  replace hB := bcall hB hb2
  clear hb2
  go_wp2_with fail
  rw [HE2.out]
  clear A_a0 A_a1 A_b0 A_b1
  (with_reducible refine (Scan_any m b o hm hb h0 h1 _).mono ?_)
  rintro e w3 ⟨rfl, hb3⟩
  replace a0 := keepc hb3 a0
  replace a1 := keepc hb3 a1
  replace b0 := keepc hb3 b0
  replace b1 := keepc hb3 b1
  replace c0 := keepc hb3 c0
  replace c1 := keepc hb3 c1
  replace hB := bcall hB hb3
  have hs3 := hb3.size
  clear hb3
  obtain ⟨w4, e4, hb4, hs4, d0, d1, -, -⟩ := box1 w3 (.int .u64 m) (.int .u64 (scB m b o)) 25
  have HE4 := hide e4
  clear e4
  have A_a0 : ∀ ob, (w3.alloc ob).cell? ⟨w.heap.size, 0, none⟩ = some (.int .u64 m) := fun _ => keepc (bal _ _) a0
  replace a0 := keepc hb4 a0
  have A_a1 : ∀ ob, (w3.alloc ob).cell? ⟨w.heap.size, 1, none⟩ = some (.int .u64 b) := fun _ => keepc (bal _ _) a1
  replace a1 := keepc hb4 a1
  have A_b0 : ∀ ob, (w3.alloc ob).cell? ⟨w.heap.size + 1, 0, none⟩ = some (.int .u64 p) := fun _ => keepc (bal _ _) b0
  replace b0 := keepc hb4 b0
  have A_b1 : ∀ ob, (w3.alloc ob).cell? ⟨w.heap.size + 1, 1, none⟩ = some (.int .u64 q) := fun _ => keepc (bal _ _) b1
  replace b1 := keepc hb4 b1
  have A_c0 : ∀ ob, (w3.alloc ob).cell? ⟨w1.heap.size, 0, none⟩ = some (.int .u64 (shM m b o)) := fun _ => keepc (bal _ _) c0
  replace c0 := keepc hb4 c0
  have A_c1 : ∀ ob, (w3.alloc ob).cell? ⟨w1.heap.size, 1, none⟩ = some (.int .u64 b) := fun _ => keepc (bal _ _) c1
  replace c1 := keepc hb4 c1
  replace hB := bcall hB hb4
  clear hb4
  go_wp2_with fail
  rw [HE4.out]
  clear A_a0 A_a1 A_b0 A_b1 A_c0 A_c1
  (with_reducible refine (Fresh_any m b o hm hb h0 h1 _).mono ?_)
  rintro e w5 ⟨rfl, hb5⟩
  replace a0 := keepc hb5 a0
  replace a1 := keepc hb5 a1
  replace b0 := keepc hb5 b0
  replace b1 := keepc hb5 b1
  replace c0 := keepc hb5 c0
  replace c1 := keepc hb5 c1
  replace d0 := keepc hb5 d0
  replace d1 := keepc hb5 d1
  replace hB := bcall hB hb5
  have hs5 := hb5.size
  clear hb5
  have A_a0 : ∀ ob, (w5.alloc ob).cell? ⟨w.heap.size, 0, none⟩ = some (.int .u64 m) := fun _ => keepc (bal _ _) a0
  have A_a1 : ∀ ob, (w5.alloc ob).cell? ⟨w.heap.size, 1, none⟩ = some (.int .u64 b) := fun _ => keepc (bal _ _) a1
  have A_b0 : ∀ ob, (w5.alloc ob).cell? ⟨w.heap.size + 1, 0, none⟩ = some (.int .u64 p) := fun _ => keepc (bal _ _) b0
  have A_b1 : ∀ ob, (w5.alloc ob).cell? ⟨w.heap.size + 1, 1, none⟩ = some (.int .u64 q) := fun _ => keepc (bal _ _) b1
  have A_c0 : ∀ ob, (w5.alloc ob).cell? ⟨w1.heap.size, 0, none⟩ = some (.int .u64 (shM m b o)) := fun _ => keepc (bal _ _) c0
  have A_c1 : ∀ ob, (w5.alloc ob).cell? ⟨w1.heap.size, 1, none⟩ = some (.int .u64 b) := fun _ => keepc (bal _ _) c1
  have A_d0 : ∀ ob, (w5.alloc ob).cell? ⟨w3.heap.size, 0, none⟩ = some (.int .u64 m) := fun _ => keepc (bal _ _) d0
  have A_d1 : ∀ ob, (w5.alloc ob).cell? ⟨w3.heap.size, 1, none⟩ = some (.int .u64 (scB m b o)) := fun _ => keepc (bal _ _) d1
  go_wp2
  all_goals go_ret
  all_goals
    refine ⟨ret_int ?_, bcall hB (bal _ _)⟩
    unfold tTurned
    (repeat' split) <;> omega
theorem look_end (m b p q : Nat) (o : Int) : tLook m b p q 0 o = (-1, 0) := rfl
theorem look_yes {m b p q : Nat} (f : Nat) {o : Int} (h : tTurned m b p q o ≠ -1) : tLook m b p q (f + 1) o = (tTurned m b p q o, o) := by unfold tLook; rw [if_pos h]
theorem look_no {m b p q : Nat} (f : Nat) {o : Int} (h : tTurned m b p q o = -1) : tLook m b p q (f + 1) o = tLook m b p q f (o + 1) := by rw [tLook, if_neg (by rw [h]; decide)]
theorem ret_ii {a b c d : Int} (h : a = c) (k : b = d) : Ending.returned (.tuple #[.int .i64 a, .int .i64 b]) = .returned (.tuple #[.int .i64 c, .int .i64 d]) := by rw [h, k]
set_option maxHeartbeats 4000000 in
theorem Between_any (m b p q : Nat) (hm : m < 18446744073709551616) (hb : b < 18446744073709551616) (w : World) :
    Calls Tryd.prog 17 #[tv m b, tv p q] w fun e w' => e = .returned (.tuple #[.int .i64 (tBetween m b p q).1, .int .i64 (tBetween m b p q).2]) ∧ Below w.heap.size w w' := by
  obtain ⟨w0, e0, hB, hs0, a0, a1, b0, b1⟩ := box2t w (.int .u64 m) (.int .u64 b) (.int .u64 p) (.int .u64 q) 25
  have HE0 := hide e0
  clear e0
  have gT := guardT
  by_cases em : m = p
  · subst em
    by_cases eb : b = q
    · subst eb
      have HT := hide (between_self m b)
      go_enter Tryd.func17, Tryd.ntmps17
      go_wp2
      refine bodyPost_ret (v := .tuple #[.int .i64 0, .int .i64 0]) (by simp [results, Tryd.results17, go_sem]) rfl ⟨?_, by rw [HE0.out]; exact hB⟩
      exact ret_ii (by rw [HT.out]) (by rw [HT.out])
    · have e1 : ¬ (m = m ∧ b = q) := fun h => eb h.2
      have q1 : ¬ (b : Int) = (q : Int) := by omega
      clear eb
      have E := hide (show tBetween m b m q = tLook m b m q 64 1 by unfold tBetween; rw [if_neg e1])
      clear e1
      go_enter Tryd.func17, Tryd.ntmps17
      go_upto_region 1 with (fail)
      rw [HE0.out]
      go_wp2
      go_loopw [6] (fun iv wr => ∃ k : Nat, k ≤ 64 ∧ iv = .int .i64 ((k : Int) + 1) ∧ Below w0.heap.size w0 wr ∧ Hid (tBetween m b m q = tLook m b m q (64 - k) ((k : Int) + 1))) (fun iv _ => 65 - (Go.RowKit.intOf iv).toNat)
      case atStart => exact ⟨0, Nat.zero_le _, by go_num, Below.refl _ _, E⟩
      case round =>
        obtain ⟨k, hk, rfl, hbw, HK⟩ := hrel
        have c0 := keepc hbw a0
        have c1 := keepc hbw a1
        have d0 := keepc hbw b0
        have d1 := keepc hbw b1
        by_cases hlt : k < 64
        · have q2 : (k : Int) + 1 ≤ 64 := by omega
          obtain ⟨f, hf⟩ : ∃ f, 64 - k = f + 1 := ⟨63 - k, by omega⟩
          have HF := hide hf
          go_wp2_with fail
          (with_reducible refine (turned_any m b m q _ hm hb (by omega) (by omega) _).mono ?_)
          rintro e w2 ⟨rfl, hb2⟩
          by_cases hT : tTurned m b m q ((k : Int) + 1) = -1
          · have HT := hide (show tBetween m b m q = tLook m b m q (64 - (k + 1)) (((k + 1 : Nat) : Int) + 1) by rw [HK.out, HF.out, look_no _ hT, show 64 - (k + 1) = f by have := HF.out; omega]; rfl)
            rw [hT]
            clear hT hf
            go_wp2
            go_roundw
            case rel => exact ⟨k + 1, by omega, by go_num, bcall hbw hb2, HT⟩
            case measure => simp [Go.RowKit.intOf]; omega
          · have HT := hide (show tBetween m b m q = (tTurned m b m q ((k : Int) + 1), (k : Int) + 1) by rw [HK.out, HF.out, look_yes _ hT])
            have q3 : (tTurned m b m q ((k : Int) + 1) != -1) = true := by rw [bne_iff_ne]; exact hT
            clear hT hf
            go_wp2
            refine bodyPost_ret (v := .tuple #[.int .i64 (tTurned m b m q ((k : Int) + 1)), .int .i64 ((k : Int) + 1)]) (by simp [results, Tryd.results17, go_sem]) rfl ⟨?_, bcall hB (bcall hbw hb2)⟩
            exact ret_ii (by rw [HT.out]) (by rw [HT.out])
        · have q2 : ¬ (k : Int) + 1 ≤ 64 := by omega
          have HT := hide (show tBetween m b m q = (-1, 0) by rw [HK.out, show 64 - k = 0 by omega]; rfl)
          go_wp2
          refine bodyPost_ret (v := .tuple #[.int .i64 (-1), .int .i64 0]) (by simp [results, Tryd.results17, go_sem]) rfl ⟨?_, bcall hB hbw⟩
          exact ret_ii (by rw [HT.out]) (by rw [HT.out])
  · have e1 : ¬ (m = p ∧ b = q) := fun h => em h.1
    have q1 : ¬ (m : Int) = (p : Int) := by omega
    clear em
    have E := hide (show tBetween m b p q = tLook m b p q 64 1 by unfold tBetween; rw [if_neg e1])
    clear e1
    go_enter Tryd.func17, Tryd.ntmps17
    go_upto_region 1 with (fail)
    rw [HE0.out]
    go_wp2
    go_loopw [6] (fun iv wr => ∃ k : Nat, k ≤ 64 ∧ iv = .int .i64 ((k : Int) + 1) ∧ Below w0.heap.size w0 wr ∧ Hid (tBetween m b p q = tLook m b p q (64 - k) ((k : Int) + 1))) (fun iv _ => 65 - (Go.RowKit.intOf iv).toNat)
    case atStart => exact ⟨0, Nat.zero_le _, by go_num, Below.refl _ _, E⟩
    case round =>
      obtain ⟨k, hk, rfl, hbw, HK⟩ := hrel
      have c0 := keepc hbw a0
      have c1 := keepc hbw a1
      have d0 := keepc hbw b0
      have d1 := keepc hbw b1
      by_cases hlt : k < 64
      · have q2 : (k : Int) + 1 ≤ 64 := by omega
        obtain ⟨f, hf⟩ : ∃ f, 64 - k = f + 1 := ⟨63 - k, by omega⟩
        have HF := hide hf
        go_wp2_with fail
        (with_reducible refine (turned_any m b p q _ hm hb (by omega) (by omega) _).mono ?_)
        rintro e w2 ⟨rfl, hb2⟩
        by_cases hT : tTurned m b p q ((k : Int) + 1) = -1
        · have HT := hide (show tBetween m b p q = tLook m b p q (64 - (k + 1)) (((k + 1 : Nat) : Int) + 1) by rw [HK.out, HF.out, look_no _ hT, show 64 - (k + 1) = f by have := HF.out; omega]; rfl)
          rw [hT]
          clear hT hf
          go_wp2
          go_roundw
          case rel => exact ⟨k + 1, by omega, by go_num, bcall hbw hb2, HT⟩
          case measure => simp [Go.RowKit.intOf]; omega
        · have HT := hide (show tBetween m b p q = (tTurned m b p q ((k : Int) + 1), (k : Int) + 1) by rw [HK.out, HF.out, look_yes _ hT])
          have q3 : (tTurned m b p q ((k : Int) + 1) != -1) = true := by rw [bne_iff_ne]; exact hT
          clear hT hf
          go_wp2
          refine bodyPost_ret (v := .tuple #[.int .i64 (tTurned m b p q ((k : Int) + 1)), .int .i64 ((k : Int) + 1)]) (by simp [results, Tryd.results17, go_sem]) rfl ⟨?_, bcall hB (bcall hbw hb2)⟩
          exact ret_ii (by rw [HT.out]) (by rw [HT.out])
      · have q2 : ¬ (k : Int) + 1 ≤ 64 := by omega
        have HT := hide (show tBetween m b p q = (-1, 0) by rw [HK.out, show 64 - k = 0 by omega]; rfl)
        go_wp2
        refine bodyPost_ret (v := .tuple #[.int .i64 (-1), .int .i64 0]) (by simp [results, Tryd.results17, go_sem]) rfl ⟨?_, bcall hB hbw⟩
        exact ret_ii (by rw [HT.out]) (by rw [HT.out])
end Go.Proofs.YtpffknlbffnafaaDoor
