/- Layer tint: the document's own answer: Between. -/
import Derived.Test.YtpffknlbffnafaaDoorTintRefB
namespace Go.Proofs.YtpffknlbffnafaaDoor
open Go.RowKit
theorem shM_ne {m b : Nat} {o : Int} (h : tFree m b o = true) : shM m b o ≠ m := by
  intro e
  have h1 := free_iff.1 h
  have h2 : hasF (shM m b o) o = true := by rw [(free_yes h).1, has_add]; simp [h1.1.1, h1.1.2]
  rw [e, h1.2.1] at h2; cases h2
set_option maxHeartbeats 16000000 in
theorem rBetween_ne (m b p q : Nat) (hm : m < 18446744073709551616) (hb : b < 18446744073709551616) (eq : ¬ m = p) (w : World) :
    Calls Tryd.prog 18 #[tv m b, tv p q] w fun e w' => e = .returned (.tuple #[.int .i64 (tBetween m b p q).1, .int .i64 (tBetween m b p q).2]) ∧ Below w.heap.size w w' := by
  obtain ⟨w0, e0, hB, hs0, a0, a1, b0, b1⟩ := box2t w (.int .u64 m) (.int .u64 b) (.int .u64 p) (.int .u64 q) 28
  have HE0 := hide e0
  clear e0
  have gT := guardR
  have HQ := hide (show ¬ (m : Int) = (p : Int) by omega)
  have e1 : ¬ (m = p ∧ b = q) := fun h => eq h.1
  have q1 := HQ.out
  clear eq
  have E := hide (show tBetween m b p q = tLook m b p q 64 1 by unfold tBetween; rw [if_neg e1])
  clear e1
  go_enter Tryd.func18, Tryd.ntmps18
  go_upto_region 1 with (fail)
  rw [HE0.out]
  go_wp2
  go_loopw [6] (fun iv wr => ∃ k : Nat, k ≤ 64 ∧ iv = .int .i64 ((k : Int) + 1) ∧ Below w0.heap.size w0 wr ∧ Hid (tBetween m b p q = tLook m b p q (64 - k) ((k : Int) + 1))) (fun iv _ => 65 - (Go.RowKit.intOf iv).toNat)
  case atStart => exact ⟨0, Nat.zero_le _, by go_num, Below.refl _ _, E⟩
  case round =>
    obtain ⟨k, hk, rfl, hbw, HK⟩ := hrel
    have c0 := keepc hbw a0
    have c1 := keepc hbw a1
    have d0 := keepc hbw b0
    have d1 := keepc hbw b1
    by_cases hlt : k < 64
    · have q2 : (k : Int) + 1 ≤ 64 := by omega
      obtain ⟨f, hf⟩ : ∃ f, 64 - k = f + 1 := ⟨63 - k, by omega⟩
      have HF64 := hide hf
      clear hf
      cases hF : tFree m b ((k : Int) + 1)
      · cases hG : tGrey m b ((k : Int) + 1)
        · have hh : rHit m b p q ((k : Int) + 1) = -1 := hit_4 (fun h => by simp [hF] at h) (fun h => by simp [hG] at h) (fun h => by simp [hF] at h)
          have HT := hide (show tBetween m b p q = tLook m b p q (64 - (k + 1)) (((k + 1 : Nat) : Int) + 1) by rw [HK.out, HF64.out, look_no _ (by rw [← hit_turned (fun h => HQ.out (by have := h.1; omega))]; exact hh), show 64 - (k + 1) = f by have := HF64.out; omega]; rfl)
          have HF := hide hF
          have HG := hide hG
          clear hh
          clear hF hG
          go_wp2_with fail
          (with_reducible refine (rShade_any m b _ hm hb (by omega) (by omega) _).mono ?_)
          rintro e w1 ⟨rfl, hb1⟩
          replace c0 := keepc hb1 c0
          replace c1 := keepc hb1 c1
          replace d0 := keepc hb1 d0
          replace d1 := keepc hb1 d1
          replace hbw := bcall hbw hb1
          have hs1 := hb1.size
          clear hb1
          rw [HF.out]
          obtain ⟨w2, e2, hb2, hs2, x0, x1, -, -⟩ := box1 w1 (.int .u64 (shM m b ((k : Int) + 1))) (.int .u64 b) 28
          have HE2 := hide e2
          clear e2
          have A_c0 : ∀ ob, (w1.alloc ob).cell? ⟨w.heap.size, 0, none⟩ = some (.int .u64 m) := fun _ => keepc (bal _ _) c0
          replace c0 := keepc hb2 c0
          have A_c1 : ∀ ob, (w1.alloc ob).cell? ⟨w.heap.size, 1, none⟩ = some (.int .u64 b) := fun _ => keepc (bal _ _) c1
          replace c1 := keepc hb2 c1
          have A_d0 : ∀ ob, (w1.alloc ob).cell? ⟨w.heap.size + 1, 0, none⟩ = some (.int .u64 p) := fun _ => keepc (bal _ _) d0
          replace d0 := keepc hb2 d0
          have A_d1 : ∀ ob, (w1.alloc ob).cell? ⟨w.heap.size + 1, 1, none⟩ = some (.int .u64 q) := fun _ => keepc (bal _ _) d1
          replace d1 := keepc hb2 d1
          replace hbw := bcall hbw hb2
          clear hb2
          go_wp2_with fail
          rw [HE2.out]
          clear A_c0 A_c1 A_d0 A_d1
          (with_reducible refine (rScan_any m b _ hm hb (by omega) (by omega) _).mono ?_)
          rintro e w3 ⟨rfl, hb3⟩
          replace c0 := keepc hb3 c0
          replace c1 := keepc hb3 c1
          replace d0 := keepc hb3 d0
          replace d1 := keepc hb3 d1
          replace x0 := keepc hb3 x0
          replace x1 := keepc hb3 x1
          replace hbw := bcall hbw hb3
          have hs3 := hb3.size
          clear hb3
          rw [HG.out]
          obtain ⟨w4, e4, hb4, hs4, y0, y1, -, -⟩ := box1 w3 (.int .u64 m) (.int .u64 (scB m b ((k : Int) + 1))) 28
          have HE4 := hide e4
          clear e4
          have A_c0 : ∀ ob, (w3.alloc ob).cell? ⟨w.heap.size, 0, none⟩ = some (.int .u64 m) := fun _ => keepc (bal _ _) c0
          replace c0 := keepc hb4 c0
          have A_c1 : ∀ ob, (w3.alloc ob).cell? ⟨w.heap.size, 1, none⟩ = some (.int .u64 b) := fun _ => keepc (bal _ _) c1
          replace c1 := keepc hb4 c1
          have A_d0 : ∀ ob, (w3.alloc ob).cell? ⟨w.heap.size + 1, 0, none⟩ = some (.int .u64 p) := fun _ => keepc (bal _ _) d0
          replace d0 := keepc hb4 d0
          have A_d1 : ∀ ob, (w3.alloc ob).cell? ⟨w.heap.size + 1, 1, none⟩ = some (.int .u64 q) := fun _ => keepc (bal _ _) d1
          replace d1 := keepc hb4 d1
          have A_x0 : ∀ ob, (w3.alloc ob).cell? ⟨w1.heap.size, 0, none⟩ = some (.int .u64 (shM m b ((k : Int) + 1))) := fun _ => keepc (bal _ _) x0
          replace x0 := keepc hb4 x0
          have A_x1 : ∀ ob, (w3.alloc ob).cell? ⟨w1.heap.size, 1, none⟩ = some (.int .u64 b) := fun _ => keepc (bal _ _) x1
          replace x1 := keepc hb4 x1
          replace hbw := bcall hbw hb4
          clear hb4
          go_wp2_with fail
          rw [HE4.out]
          clear A_c0 A_c1 A_d0 A_d1 A_x0 A_x1
          (with_reducible refine (rFresh_any m b _ hm hb (by omega) (by omega) _).mono ?_)
          rintro e w5 ⟨rfl, hb5⟩
          replace c0 := keepc hb5 c0
          replace c1 := keepc hb5 c1
          replace d0 := keepc hb5 d0
          replace d1 := keepc hb5 d1
          replace x0 := keepc hb5 x0
          replace x1 := keepc hb5 x1
          replace y0 := keepc hb5 y0
          replace y1 := keepc hb5 y1
          replace hbw := bcall hbw hb5
          have hs5 := hb5.size
          clear hb5
          rw [HF.out]
          have A_c0 : ∀ ob, (w5.alloc ob).cell? ⟨w.heap.size, 0, none⟩ = some (.int .u64 m) := fun _ => keepc (bal _ _) c0
          have A_c1 : ∀ ob, (w5.alloc ob).cell? ⟨w.heap.size, 1, none⟩ = some (.int .u64 b) := fun _ => keepc (bal _ _) c1
          have A_d0 : ∀ ob, (w5.alloc ob).cell? ⟨w.heap.size + 1, 0, none⟩ = some (.int .u64 p) := fun _ => keepc (bal _ _) d0
          have A_d1 : ∀ ob, (w5.alloc ob).cell? ⟨w.heap.size + 1, 1, none⟩ = some (.int .u64 q) := fun _ => keepc (bal _ _) d1
          have A_x0 : ∀ ob, (w5.alloc ob).cell? ⟨w1.heap.size, 0, none⟩ = some (.int .u64 (shM m b ((k : Int) + 1))) := fun _ => keepc (bal _ _) x0
          have A_x1 : ∀ ob, (w5.alloc ob).cell? ⟨w1.heap.size, 1, none⟩ = some (.int .u64 b) := fun _ => keepc (bal _ _) x1
          have A_y0 : ∀ ob, (w5.alloc ob).cell? ⟨w3.heap.size, 0, none⟩ = some (.int .u64 m) := fun _ => keepc (bal _ _) y0
          have A_y1 : ∀ ob, (w5.alloc ob).cell? ⟨w3.heap.size, 1, none⟩ = some (.int .u64 (scB m b ((k : Int) + 1))) := fun _ => keepc (bal _ _) y1
          go_wp2
          go_roundw
          case rel => exact ⟨k + 1, by omega, by go_num, bcall hbw (bal _ _), HT⟩
          case measure => simp [Go.RowKit.intOf]; omega
        · have g1 : ¬ (m : Int) = (p : Int) := HQ.out
          have hh : rHit m b p q ((k : Int) + 1) = -1 := hit_4 (fun h => by simp [hF] at h) (fun h => HQ.out (by have := h.2.1; omega)) (fun h => by simp [hF] at h)
          have HT := hide (show tBetween m b p q = tLook m b p q (64 - (k + 1)) (((k + 1 : Nat) : Int) + 1) by rw [HK.out, HF64.out, look_no _ (by rw [← hit_turned (fun h => HQ.out (by have := h.1; omega))]; exact hh), show 64 - (k + 1) = f by have := HF64.out; omega]; rfl)
          have HF := hide hF
          have HG := hide hG
          clear hh
          clear hF hG
          go_wp2_with fail
          (with_reducible refine (rShade_any m b _ hm hb (by omega) (by omega) _).mono ?_)
          rintro e w1 ⟨rfl, hb1⟩
          replace c0 := keepc hb1 c0
          replace c1 := keepc hb1 c1
          replace d0 := keepc hb1 d0
          replace d1 := keepc hb1 d1
          replace hbw := bcall hbw hb1
          have hs1 := hb1.size
          clear hb1
          rw [HF.out]
          obtain ⟨w2, e2, hb2, hs2, x0, x1, -, -⟩ := box1 w1 (.int .u64 (shM m b ((k : Int) + 1))) (.int .u64 b) 28
          have HE2 := hide e2
          clear e2
          have A_c0 : ∀ ob, (w1.alloc ob).cell? ⟨w.heap.size, 0, none⟩ = some (.int .u64 m) := fun _ => keepc (bal _ _) c0
          replace c0 := keepc hb2 c0
          have A_c1 : ∀ ob, (w1.alloc ob).cell? ⟨w.heap.size, 1, none⟩ = some (.int .u64 b) := fun _ => keepc (bal _ _) c1
          replace c1 := keepc hb2 c1
          have A_d0 : ∀ ob, (w1.alloc ob).cell? ⟨w.heap.size + 1, 0, none⟩ = some (.int .u64 p) := fun _ => keepc (bal _ _) d0
          replace d0 := keepc hb2 d0
          have A_d1 : ∀ ob, (w1.alloc ob).cell? ⟨w.heap.size + 1, 1, none⟩ = some (.int .u64 q) := fun _ => keepc (bal _ _) d1
          replace d1 := keepc hb2 d1
          replace hbw := bcall hbw hb2
          clear hb2
          go_wp2_with fail
          rw [HE2.out]
          clear A_c0 A_c1 A_d0 A_d1
          (with_reducible refine (rScan_any m b _ hm hb (by omega) (by omega) _).mono ?_)
          rintro e w3 ⟨rfl, hb3⟩
          replace c0 := keepc hb3 c0
          replace c1 := keepc hb3 c1
          replace d0 := keepc hb3 d0
          replace d1 := keepc hb3 d1
          replace x0 := keepc hb3 x0
          replace x1 := keepc hb3 x1
          replace hbw := bcall hbw hb3
          have hs3 := hb3.size
          clear hb3
          rw [HG.out]
          obtain ⟨w4, e4, hb4, hs4, y0, y1, -, -⟩ := box1 w3 (.int .u64 m) (.int .u64 (scB m b ((k : Int) + 1))) 28
          have HE4 := hide e4
          clear e4
          have A_c0 : ∀ ob, (w3.alloc ob).cell? ⟨w.heap.size, 0, none⟩ = some (.int .u64 m) := fun _ => keepc (bal _ _) c0
          replace c0 := keepc hb4 c0
          have A_c1 : ∀ ob, (w3.alloc ob).cell? ⟨w.heap.size, 1, none⟩ = some (.int .u64 b) := fun _ => keepc (bal _ _) c1
          replace c1 := keepc hb4 c1
          have A_d0 : ∀ ob, (w3.alloc ob).cell? ⟨w.heap.size + 1, 0, none⟩ = some (.int .u64 p) := fun _ => keepc (bal _ _) d0
          replace d0 := keepc hb4 d0
          have A_d1 : ∀ ob, (w3.alloc ob).cell? ⟨w.heap.size + 1, 1, none⟩ = some (.int .u64 q) := fun _ => keepc (bal _ _) d1
          replace d1 := keepc hb4 d1
          have A_x0 : ∀ ob, (w3.alloc ob).cell? ⟨w1.heap.size, 0, none⟩ = some (.int .u64 (shM m b ((k : Int) + 1))) := fun _ => keepc (bal _ _) x0
          replace x0 := keepc hb4 x0
          have A_x1 : ∀ ob, (w3.alloc ob).cell? ⟨w1.heap.size, 1, none⟩ = some (.int .u64 b) := fun _ => keepc (bal _ _) x1
          replace x1 := keepc hb4 x1
          replace hbw := bcall hbw hb4
          clear hb4
          go_wp2_with fail
          rw [HE4.out]
          clear A_c0 A_c1 A_d0 A_d1 A_x0 A_x1
          (with_reducible refine (rFresh_any m b _ hm hb (by omega) (by omega) _).mono ?_)
          rintro e w5 ⟨rfl, hb5⟩
          replace c0 := keepc hb5 c0
          replace c1 := keepc hb5 c1
          replace d0 := keepc hb5 d0
          replace d1 := keepc hb5 d1
          replace x0 := keepc hb5 x0
          replace x1 := keepc hb5 x1
          replace y0 := keepc hb5 y0
          replace y1 := keepc hb5 y1
          replace hbw := bcall hbw hb5
          have hs5 := hb5.size
          clear hb5
          rw [HF.out]
          have A_c0 : ∀ ob, (w5.alloc ob).cell? ⟨w.heap.size, 0, none⟩ = some (.int .u64 m) := fun _ => keepc (bal _ _) c0
          have A_c1 : ∀ ob, (w5.alloc ob).cell? ⟨w.heap.size, 1, none⟩ = some (.int .u64 b) := fun _ => keepc (bal _ _) c1
          have A_d0 : ∀ ob, (w5.alloc ob).cell? ⟨w.heap.size + 1, 0, none⟩ = some (.int .u64 p) := fun _ => keepc (bal _ _) d0
          have A_d1 : ∀ ob, (w5.alloc ob).cell? ⟨w.heap.size + 1, 1, none⟩ = some (.int .u64 q) := fun _ => keepc (bal _ _) d1
          have A_x0 : ∀ ob, (w5.alloc ob).cell? ⟨w1.heap.size, 0, none⟩ = some (.int .u64 (shM m b ((k : Int) + 1))) := fun _ => keepc (bal _ _) x0
          have A_x1 : ∀ ob, (w5.alloc ob).cell? ⟨w1.heap.size, 1, none⟩ = some (.int .u64 b) := fun _ => keepc (bal _ _) x1
          have A_y0 : ∀ ob, (w5.alloc ob).cell? ⟨w3.heap.size, 0, none⟩ = some (.int .u64 m) := fun _ => keepc (bal _ _) y0
          have A_y1 : ∀ ob, (w5.alloc ob).cell? ⟨w3.heap.size, 1, none⟩ = some (.int .u64 (scB m b ((k : Int) + 1))) := fun _ => keepc (bal _ _) y1
          go_wp2
          go_roundw
          case rel => exact ⟨k + 1, by omega, by go_num, bcall hbw (bal _ _), HT⟩
          case measure => simp [Go.RowKit.intOf]; omega
      · have hG : tGrey m b ((k : Int) + 1) = false := by unfold tGrey; rw [(free_iff.1 hF).2.2, (free_iff.1 hF).2.1]; rfl
        by_cases e1 : shM m b ((k : Int) + 1) = p
        · subst e1
          by_cases e2 : b = q
          · subst e2
            have hh : rHit m b (shM m b ((k : Int) + 1)) b ((k : Int) + 1) = 1 := hit_1 hF rfl rfl
            have HT := hide (show tBetween m b (shM m b ((k : Int) + 1)) b = (1, ((k : Int) + 1)) by rw [HK.out, HF64.out, look_yes _ (by rw [← hit_turned (fun h => HQ.out (by have := h.1; omega)), hh]; decide), ← hit_turned (fun h => HQ.out (by have := h.1; omega)), hh])
            have HF := hide hF
            have HG := hide hG
            clear hh
            clear hF hG
            go_wp2_with fail
            (with_reducible refine (rShade_any m b _ hm hb (by omega) (by omega) _).mono ?_)
            rintro e w1 ⟨rfl, hb1⟩
            replace c0 := keepc hb1 c0
            replace c1 := keepc hb1 c1
            replace d0 := keepc hb1 d0
            replace d1 := keepc hb1 d1
            replace hbw := bcall hbw hb1
            have hs1 := hb1.size
            clear hb1
            rw [HF.out]
            have A_c0 : ∀ ob, (w1.alloc ob).cell? ⟨w.heap.size, 0, none⟩ = some (.int .u64 m) := fun _ => keepc (bal _ _) c0
            have A_c1 : ∀ ob, (w1.alloc ob).cell? ⟨w.heap.size, 1, none⟩ = some (.int .u64 b) := fun _ => keepc (bal _ _) c1
            have A_d0 : ∀ ob, (w1.alloc ob).cell? ⟨w.heap.size + 1, 0, none⟩ = some (.int .u64 (shM m b ((k : Int) + 1))) := fun _ => keepc (bal _ _) d0
            have A_d1 : ∀ ob, (w1.alloc ob).cell? ⟨w.heap.size + 1, 1, none⟩ = some (.int .u64 b) := fun _ => keepc (bal _ _) d1
            go_wp2
            refine bodyPost_ret (v := .tuple #[.int .i64 1, .int .i64 ((k : Int) + 1)]) (by simp [results, Tryd.results18, go_sem]) rfl ⟨?_, bcall hB (bcall hbw (bal _ _))⟩
            exact ret_ii (by rw [HT.out]) (by rw [HT.out])
          · by_cases e3 : frB m b ((k : Int) + 1) = q
            · subst e3
              have g2 : ¬ (b : Int) = ((frB m b ((k : Int) + 1) : Nat) : Int) := by omega
              have hh : rHit m b (shM m b ((k : Int) + 1)) (frB m b ((k : Int) + 1)) ((k : Int) + 1) = 3 := hit_3 (fun h => e2 h.2.2) (fun h => by simp [hG] at h) hF rfl rfl
              have HT := hide (show tBetween m b (shM m b ((k : Int) + 1)) (frB m b ((k : Int) + 1)) = (3, ((k : Int) + 1)) by rw [HK.out, HF64.out, look_yes _ (by rw [← hit_turned (fun h => HQ.out (by have := h.1; omega)), hh]; decide), ← hit_turned (fun h => HQ.out (by have := h.1; omega)), hh])
              have HF := hide hF
              have HG := hide hG
              clear hh e2
              clear hF hG
              go_wp2_with fail
              (with_reducible refine (rShade_any m b _ hm hb (by omega) (by omega) _).mono ?_)
              rintro e w1 ⟨rfl, hb1⟩
              replace c0 := keepc hb1 c0
              replace c1 := keepc hb1 c1
              replace d0 := keepc hb1 d0
              replace d1 := keepc hb1 d1
              replace hbw := bcall hbw hb1
              have hs1 := hb1.size
              clear hb1
              rw [HF.out]
              obtain ⟨w2, e2, hb2, hs2, x0, x1, -, -⟩ := box1 w1 (.int .u64 (shM m b ((k : Int) + 1))) (.int .u64 b) 28
              have HE2 := hide e2
              clear e2
              have A_c0 : ∀ ob, (w1.alloc ob).cell? ⟨w.heap.size, 0, none⟩ = some (.int .u64 m) := fun _ => keepc (bal _ _) c0
              replace c0 := keepc hb2 c0
              have A_c1 : ∀ ob, (w1.alloc ob).cell? ⟨w.heap.size, 1, none⟩ = some (.int .u64 b) := fun _ => keepc (bal _ _) c1
              replace c1 := keepc hb2 c1
              have A_d0 : ∀ ob, (w1.alloc ob).cell? ⟨w.heap.size + 1, 0, none⟩ = some (.int .u64 (shM m b ((k : Int) + 1))) := fun _ => keepc (bal _ _) d0
              replace d0 := keepc hb2 d0
              have A_d1 : ∀ ob, (w1.alloc ob).cell? ⟨w.heap.size + 1, 1, none⟩ = some (.int .u64 (frB m b ((k : Int) + 1))) := fun _ => keepc (bal _ _) d1
              replace d1 := keepc hb2 d1
              replace hbw := bcall hbw hb2
              clear hb2
              go_wp2_with fail
              rw [HE2.out]
              clear A_c0 A_c1 A_d0 A_d1
              (with_reducible refine (rScan_any m b _ hm hb (by omega) (by omega) _).mono ?_)
              rintro e w3 ⟨rfl, hb3⟩
              replace c0 := keepc hb3 c0
              replace c1 := keepc hb3 c1
              replace d0 := keepc hb3 d0
              replace d1 := keepc hb3 d1
              replace x0 := keepc hb3 x0
              replace x1 := keepc hb3 x1
              replace hbw := bcall hbw hb3
              have hs3 := hb3.size
              clear hb3
              rw [HG.out]
              obtain ⟨w4, e4, hb4, hs4, y0, y1, -, -⟩ := box1 w3 (.int .u64 m) (.int .u64 (scB m b ((k : Int) + 1))) 28
              have HE4 := hide e4
              clear e4
              have A_c0 : ∀ ob, (w3.alloc ob).cell? ⟨w.heap.size, 0, none⟩ = some (.int .u64 m) := fun _ => keepc (bal _ _) c0
              replace c0 := keepc hb4 c0
              have A_c1 : ∀ ob, (w3.alloc ob).cell? ⟨w.heap.size, 1, none⟩ = some (.int .u64 b) := fun _ => keepc (bal _ _) c1
              replace c1 := keepc hb4 c1
              have A_d0 : ∀ ob, (w3.alloc ob).cell? ⟨w.heap.size + 1, 0, none⟩ = some (.int .u64 (shM m b ((k : Int) + 1))) := fun _ => keepc (bal _ _) d0
              replace d0 := keepc hb4 d0
              have A_d1 : ∀ ob, (w3.alloc ob).cell? ⟨w.heap.size + 1, 1, none⟩ = some (.int .u64 (frB m b ((k : Int) + 1))) := fun _ => keepc (bal _ _) d1
              replace d1 := keepc hb4 d1
              have A_x0 : ∀ ob, (w3.alloc ob).cell? ⟨w1.heap.size, 0, none⟩ = some (.int .u64 (shM m b ((k : Int) + 1))) := fun _ => keepc (bal _ _) x0
              replace x0 := keepc hb4 x0
              have A_x1 : ∀ ob, (w3.alloc ob).cell? ⟨w1.heap.size, 1, none⟩ = some (.int .u64 b) := fun _ => keepc (bal _ _) x1
              replace x1 := keepc hb4 x1
              replace hbw := bcall hbw hb4
              clear hb4
              go_wp2_with fail
              rw [HE4.out]
              clear A_c0 A_c1 A_d0 A_d1 A_x0 A_x1
              (with_reducible refine (rFresh_any m b _ hm hb (by omega) (by omega) _).mono ?_)
              rintro e w5 ⟨rfl, hb5⟩
              replace c0 := keepc hb5 c0
              replace c1 := keepc hb5 c1
              replace d0 := keepc hb5 d0
              replace d1 := keepc hb5 d1
              replace x0 := keepc hb5 x0
              replace x1 := keepc hb5 x1
              replace y0 := keepc hb5 y0
              replace y1 := keepc hb5 y1
              replace hbw := bcall hbw hb5
              have hs5 := hb5.size
              clear hb5
              rw [HF.out]
              have A_c0 : ∀ ob, (w5.alloc ob).cell? ⟨w.heap.size, 0, none⟩ = some (.int .u64 m) := fun _ => keepc (bal _ _) c0
              have A_c1 : ∀ ob, (w5.alloc ob).cell? ⟨w.heap.size, 1, none⟩ = some (.int .u64 b) := fun _ => keepc (bal _ _) c1
              have A_d0 : ∀ ob, (w5.alloc ob).cell? ⟨w.heap.size + 1, 0, none⟩ = some (.int .u64 (shM m b ((k : Int) + 1))) := fun _ => keepc (bal _ _) d0
              have A_d1 : ∀ ob, (w5.alloc ob).cell? ⟨w.heap.size + 1, 1, none⟩ = some (.int .u64 (frB m b ((k : Int) + 1))) := fun _ => keepc (bal _ _) d1
              have A_x0 : ∀ ob, (w5.alloc ob).cell? ⟨w1.heap.size, 0, none⟩ = some (.int .u64 (shM m b ((k : Int) + 1))) := fun _ => keepc (bal _ _) x0
              have A_x1 : ∀ ob, (w5.alloc ob).cell? ⟨w1.heap.size, 1, none⟩ = some (.int .u64 b) := fun _ => keepc (bal _ _) x1
              have A_y0 : ∀ ob, (w5.alloc ob).cell? ⟨w3.heap.size, 0, none⟩ = some (.int .u64 m) := fun _ => keepc (bal _ _) y0
              have A_y1 : ∀ ob, (w5.alloc ob).cell? ⟨w3.heap.size, 1, none⟩ = some (.int .u64 (scB m b ((k : Int) + 1))) := fun _ => keepc (bal _ _) y1
              go_wp2
              refine bodyPost_ret (v := .tuple #[.int .i64 3, .int .i64 ((k : Int) + 1)]) (by simp [results, Tryd.results18, go_sem]) rfl ⟨?_, bcall hB (bcall hbw (bal _ _))⟩
              exact ret_ii (by rw [HT.out]) (by rw [HT.out])
            · have g2 : ¬ (b : Int) = (q : Int) := by omega
              have g3 : ¬ ((frB m b ((k : Int) + 1) : Nat) : Int) = (q : Int) := by omega
              have hh : rHit m b (shM m b ((k : Int) + 1)) q ((k : Int) + 1) = -1 := hit_4 (fun h => e2 h.2.2) (fun h => by simp [hG] at h) (fun h => e3 h.2.2)
              have HT := hide (show tBetween m b (shM m b ((k : Int) + 1)) q = tLook m b (shM m b ((k : Int) + 1)) q (64 - (k + 1)) (((k + 1 : Nat) : Int) + 1) by rw [HK.out, HF64.out, look_no _ (by rw [← hit_turned (fun h => HQ.out (by have := h.1; omega))]; exact hh), show 64 - (k + 1) = f by have := HF64.out; omega]; rfl)
              have HF := hide hF
              have HG := hide hG
              clear hh e2 e3
              clear hF hG
              go_wp2_with fail
              (with_reducible refine (rShade_any m b _ hm hb (by omega) (by omega) _).mono ?_)
              rintro e w1 ⟨rfl, hb1⟩
              replace c0 := keepc hb1 c0
              replace c1 := keepc hb1 c1
              replace d0 := keepc hb1 d0
              replace d1 := keepc hb1 d1
              replace hbw := bcall hbw hb1
              have hs1 := hb1.size
              clear hb1
              rw [HF.out]
              obtain ⟨w2, e2, hb2, hs2, x0, x1, -, -⟩ := box1 w1 (.int .u64 (shM m b ((k : Int) + 1))) (.int .u64 b) 28
              have HE2 := hide e2
              clear e2
              have A_c0 : ∀ ob, (w1.alloc ob).cell? ⟨w.heap.size, 0, none⟩ = some (.int .u64 m) := fun _ => keepc (bal _ _) c0
              replace c0 := keepc hb2 c0
              have A_c1 : ∀ ob, (w1.alloc ob).cell? ⟨w.heap.size, 1, none⟩ = some (.int .u64 b) := fun _ => keepc (bal _ _) c1
              replace c1 := keepc hb2 c1
              have A_d0 : ∀ ob, (w1.alloc ob).cell? ⟨w.heap.size + 1, 0, none⟩ = some (.int .u64 (shM m b ((k : Int) + 1))) := fun _ => keepc (bal _ _) d0
              replace d0 := keepc hb2 d0
              have A_d1 : ∀ ob, (w1.alloc ob).cell? ⟨w.heap.size + 1, 1, none⟩ = some (.int .u64 q) := fun _ => keepc (bal _ _) d1
              replace d1 := keepc hb2 d1
              replace hbw := bcall hbw hb2
              clear hb2
              go_wp2_with fail
              rw [HE2.out]
              clear A_c0 A_c1 A_d0 A_d1
              (with_reducible refine (rScan_any m b _ hm hb (by omega) (by omega) _).mono ?_)
              rintro e w3 ⟨rfl, hb3⟩
              replace c0 := keepc hb3 c0
              replace c1 := keepc hb3 c1
              replace d0 := keepc hb3 d0
              replace d1 := keepc hb3 d1
              replace x0 := keepc hb3 x0
              replace x1 := keepc hb3 x1
              replace hbw := bcall hbw hb3
              have hs3 := hb3.size
              clear hb3
              rw [HG.out]
              obtain ⟨w4, e4, hb4, hs4, y0, y1, -, -⟩ := box1 w3 (.int .u64 m) (.int .u64 (scB m b ((k : Int) + 1))) 28
              have HE4 := hide e4
              clear e4
              have A_c0 : ∀ ob, (w3.alloc ob).cell? ⟨w.heap.size, 0, none⟩ = some (.int .u64 m) := fun _ => keepc (bal _ _) c0
              replace c0 := keepc hb4 c0
              have A_c1 : ∀ ob, (w3.alloc ob).cell? ⟨w.heap.size, 1, none⟩ = some (.int .u64 b) := fun _ => keepc (bal _ _) c1
              replace c1 := keepc hb4 c1
              have A_d0 : ∀ ob, (w3.alloc ob).cell? ⟨w.heap.size + 1, 0, none⟩ = some (.int .u64 (shM m b ((k : Int) + 1))) := fun _ => keepc (bal _ _) d0
              replace d0 := keepc hb4 d0
              have A_d1 : ∀ ob, (w3.alloc ob).cell? ⟨w.heap.size + 1, 1, none⟩ = some (.int .u64 q) := fun _ => keepc (bal _ _) d1
              replace d1 := keepc hb4 d1
              have A_x0 : ∀ ob, (w3.alloc ob).cell? ⟨w1.heap.size, 0, none⟩ = some (.int .u64 (shM m b ((k : Int) + 1))) := fun _ => keepc (bal _ _) x0
              replace x0 := keepc hb4 x0
              have A_x1 : ∀ ob, (w3.alloc ob).cell? ⟨w1.heap.size, 1, none⟩ = some (.int .u64 b) := fun _ => keepc (bal _ _) x1
              replace x1 := keepc hb4 x1
              replace hbw := bcall hbw hb4
              clear hb4
              go_wp2_with fail
              rw [HE4.out]
              clear A_c0 A_c1 A_d0 A_d1 A_x0 A_x1
              (with_reducible refine (rFresh_any m b _ hm hb (by omega) (by omega) _).mono ?_)
              rintro e w5 ⟨rfl, hb5⟩
              replace c0 := keepc hb5 c0
              replace c1 := keepc hb5 c1
              replace d0 := keepc hb5 d0
              replace d1 := keepc hb5 d1
              replace x0 := keepc hb5 x0
              replace x1 := keepc hb5 x1
              replace y0 := keepc hb5 y0
              replace y1 := keepc hb5 y1
              replace hbw := bcall hbw hb5
              have hs5 := hb5.size
              clear hb5
              rw [HF.out]
              have A_c0 : ∀ ob, (w5.alloc ob).cell? ⟨w.heap.size, 0, none⟩ = some (.int .u64 m) := fun _ => keepc (bal _ _) c0
              have A_c1 : ∀ ob, (w5.alloc ob).cell? ⟨w.heap.size, 1, none⟩ = some (.int .u64 b) := fun _ => keepc (bal _ _) c1
              have A_d0 : ∀ ob, (w5.alloc ob).cell? ⟨w.heap.size + 1, 0, none⟩ = some (.int .u64 (shM m b ((k : Int) + 1))) := fun _ => keepc (bal _ _) d0
              have A_d1 : ∀ ob, (w5.alloc ob).cell? ⟨w.heap.size + 1, 1, none⟩ = some (.int .u64 q) := fun _ => keepc (bal _ _) d1
              have A_x0 : ∀ ob, (w5.alloc ob).cell? ⟨w1.heap.size, 0, none⟩ = some (.int .u64 (shM m b ((k : Int) + 1))) := fun _ => keepc (bal _ _) x0
              have A_x1 : ∀ ob, (w5.alloc ob).cell? ⟨w1.heap.size, 1, none⟩ = some (.int .u64 b) := fun _ => keepc (bal _ _) x1
              have A_y0 : ∀ ob, (w5.alloc ob).cell? ⟨w3.heap.size, 0, none⟩ = some (.int .u64 m) := fun _ => keepc (bal _ _) y0
              have A_y1 : ∀ ob, (w5.alloc ob).cell? ⟨w3.heap.size, 1, none⟩ = some (.int .u64 (scB m b ((k : Int) + 1))) := fun _ => keepc (bal _ _) y1
              go_wp2
              go_roundw
              case rel => exact ⟨k + 1, by omega, by go_num, bcall hbw (bal _ _), HT⟩
              case measure => simp [Go.RowKit.intOf]; omega
        · have g1 : ¬ ((shM m b ((k : Int) + 1) : Nat) : Int) = (p : Int) := by omega
          have hh : rHit m b p q ((k : Int) + 1) = -1 := hit_4 (fun h => e1 h.2.1) (fun h => by simp [hG] at h) (fun h => e1 h.2.1)
          have HT := hide (show tBetween m b p q = tLook m b p q (64 - (k + 1)) (((k + 1 : Nat) : Int) + 1) by rw [HK.out, HF64.out, look_no _ (by rw [← hit_turned (fun h => HQ.out (by have := h.1; omega))]; exact hh), show 64 - (k + 1) = f by have := HF64.out; omega]; rfl)
          have HF := hide hF
          have HG := hide hG
          clear hh e1
          clear hF hG
          go_wp2_with fail
          (with_reducible refine (rShade_any m b _ hm hb (by omega) (by omega) _).mono ?_)
          rintro e w1 ⟨rfl, hb1⟩
          replace c0 := keepc hb1 c0
          replace c1 := keepc hb1 c1
          replace d0 := keepc hb1 d0
          replace d1 := keepc hb1 d1
          replace hbw := bcall hbw hb1
          have hs1 := hb1.size
          clear hb1
          rw [HF.out]
          obtain ⟨w2, e2, hb2, hs2, x0, x1, -, -⟩ := box1 w1 (.int .u64 (shM m b ((k : Int) + 1))) (.int .u64 b) 28
          have HE2 := hide e2
          clear e2
          have A_c0 : ∀ ob, (w1.alloc ob).cell? ⟨w.heap.size, 0, none⟩ = some (.int .u64 m) := fun _ => keepc (bal _ _) c0
          replace c0 := keepc hb2 c0
          have A_c1 : ∀ ob, (w1.alloc ob).cell? ⟨w.heap.size, 1, none⟩ = some (.int .u64 b) := fun _ => keepc (bal _ _) c1
          replace c1 := keepc hb2 c1
          have A_d0 : ∀ ob, (w1.alloc ob).cell? ⟨w.heap.size + 1, 0, none⟩ = some (.int .u64 p) := fun _ => keepc (bal _ _) d0
          replace d0 := keepc hb2 d0
          have A_d1 : ∀ ob, (w1.alloc ob).cell? ⟨w.heap.size + 1, 1, none⟩ = some (.int .u64 q) := fun _ => keepc (bal _ _) d1
          replace d1 := keepc hb2 d1
          replace hbw := bcall hbw hb2
          clear hb2
          go_wp2_with fail
          rw [HE2.out]
          clear A_c0 A_c1 A_d0 A_d1
          (with_reducible refine (rScan_any m b _ hm hb (by omega) (by omega) _).mono ?_)
          rintro e w3 ⟨rfl, hb3⟩
          replace c0 := keepc hb3 c0
          replace c1 := keepc hb3 c1
          replace d0 := keepc hb3 d0
          replace d1 := keepc hb3 d1
          replace x0 := keepc hb3 x0
          replace x1 := keepc hb3 x1
          replace hbw := bcall hbw hb3
          have hs3 := hb3.size
          clear hb3
          rw [HG.out]
          obtain ⟨w4, e4, hb4, hs4, y0, y1, -, -⟩ := box1 w3 (.int .u64 m) (.int .u64 (scB m b ((k : Int) + 1))) 28
          have HE4 := hide e4
          clear e4
          have A_c0 : ∀ ob, (w3.alloc ob).cell? ⟨w.heap.size, 0, none⟩ = some (.int .u64 m) := fun _ => keepc (bal _ _) c0
          replace c0 := keepc hb4 c0
          have A_c1 : ∀ ob, (w3.alloc ob).cell? ⟨w.heap.size, 1, none⟩ = some (.int .u64 b) := fun _ => keepc (bal _ _) c1
          replace c1 := keepc hb4 c1
          have A_d0 : ∀ ob, (w3.alloc ob).cell? ⟨w.heap.size + 1, 0, none⟩ = some (.int .u64 p) := fun _ => keepc (bal _ _) d0
          replace d0 := keepc hb4 d0
          have A_d1 : ∀ ob, (w3.alloc ob).cell? ⟨w.heap.size + 1, 1, none⟩ = some (.int .u64 q) := fun _ => keepc (bal _ _) d1
          replace d1 := keepc hb4 d1
          have A_x0 : ∀ ob, (w3.alloc ob).cell? ⟨w1.heap.size, 0, none⟩ = some (.int .u64 (shM m b ((k : Int) + 1))) := fun _ => keepc (bal _ _) x0
          replace x0 := keepc hb4 x0
          have A_x1 : ∀ ob, (w3.alloc ob).cell? ⟨w1.heap.size, 1, none⟩ = some (.int .u64 b) := fun _ => keepc (bal _ _) x1
          replace x1 := keepc hb4 x1
          replace hbw := bcall hbw hb4
          clear hb4
          go_wp2_with fail
          rw [HE4.out]
          clear A_c0 A_c1 A_d0 A_d1 A_x0 A_x1
          (with_reducible refine (rFresh_any m b _ hm hb (by omega) (by omega) _).mono ?_)
          rintro e w5 ⟨rfl, hb5⟩
          replace c0 := keepc hb5 c0
          replace c1 := keepc hb5 c1
          replace d0 := keepc hb5 d0
          replace d1 := keepc hb5 d1
          replace x0 := keepc hb5 x0
          replace x1 := keepc hb5 x1
          replace y0 := keepc hb5 y0
          replace y1 := keepc hb5 y1
          replace hbw := bcall hbw hb5
          have hs5 := hb5.size
          clear hb5
          rw [HF.out]
          have A_c0 : ∀ ob, (w5.alloc ob).cell? ⟨w.heap.size, 0, none⟩ = some (.int .u64 m) := fun _ => keepc (bal _ _) c0
          have A_c1 : ∀ ob, (w5.alloc ob).cell? ⟨w.heap.size, 1, none⟩ = some (.int .u64 b) := fun _ => keepc (bal _ _) c1
          have A_d0 : ∀ ob, (w5.alloc ob).cell? ⟨w.heap.size + 1, 0, none⟩ = some (.int .u64 p) := fun _ => keepc (bal _ _) d0
          have A_d1 : ∀ ob, (w5.alloc ob).cell? ⟨w.heap.size + 1, 1, none⟩ = some (.int .u64 q) := fun _ => keepc (bal _ _) d1
          have A_x0 : ∀ ob, (w5.alloc ob).cell? ⟨w1.heap.size, 0, none⟩ = some (.int .u64 (shM m b ((k : Int) + 1))) := fun _ => keepc (bal _ _) x0
          have A_x1 : ∀ ob, (w5.alloc ob).cell? ⟨w1.heap.size, 1, none⟩ = some (.int .u64 b) := fun _ => keepc (bal _ _) x1
          have A_y0 : ∀ ob, (w5.alloc ob).cell? ⟨w3.heap.size, 0, none⟩ = some (.int .u64 m) := fun _ => keepc (bal _ _) y0
          have A_y1 : ∀ ob, (w5.alloc ob).cell? ⟨w3.heap.size, 1, none⟩ = some (.int .u64 (scB m b ((k : Int) + 1))) := fun _ => keepc (bal _ _) y1
          go_wp2
          go_roundw
          case rel => exact ⟨k + 1, by omega, by go_num, bcall hbw (bal _ _), HT⟩
          case measure => simp [Go.RowKit.intOf]; omega
    · have q2 : ¬ (k : Int) + 1 ≤ 64 := by omega
      have HT := hide (show tBetween m b p q = (-1, 0) by rw [HK.out, show 64 - k = 0 by omega]; rfl)
      go_wp2
      refine bodyPost_ret (v := .tuple #[.int .i64 (-1), .int .i64 0]) (by simp [results, Tryd.results18, go_sem]) rfl ⟨?_, bcall hB hbw⟩
      exact ret_ii (by rw [HT.out]) (by rw [HT.out])
set_option maxHeartbeats 16000000 in
theorem rBetween_eq (m b q : Nat) (hm : m < 18446744073709551616) (hb : b < 18446744073709551616) (eq : ¬ b = q) (w : World) :
    Calls Tryd.prog 18 #[tv m b, tv m q] w fun e w' => e = .returned (.tuple #[.int .i64 (tBetween m b m q).1, .int .i64 (tBetween m b m q).2]) ∧ Below w.heap.size w w' := by
  obtain ⟨w0, e0, hB, hs0, a0, a1, b0, b1⟩ := box2t w (.int .u64 m) (.int .u64 b) (.int .u64 m) (.int .u64 q) 28
  have HE0 := hide e0
  clear e0
  have gT := guardR
  have HQ := hide (show ¬ (b : Int) = (q : Int) by omega)
  have e1 : ¬ (m = m ∧ b = q) := fun h => eq h.2
  have q1 := HQ.out
  clear eq
  have E := hide (show tBetween m b m q = tLook m b m q 64 1 by unfold tBetween; rw [if_neg e1])
  clear e1
  go_enter Tryd.func18, Tryd.ntmps18
  go_upto_region 1 with (fail)
  rw [HE0.out]
  go_wp2
  go_loopw [6] (fun iv wr => ∃ k : Nat, k ≤ 64 ∧ iv = .int .i64 ((k : Int) + 1) ∧ Below w0.heap.size w0 wr ∧ Hid (tBetween m b m q = tLook m b m q (64 - k) ((k : Int) + 1))) (fun iv _ => 65 - (Go.RowKit.intOf iv).toNat)
  case atStart => exact ⟨0, Nat.zero_le _, by go_num, Below.refl _ _, E⟩
  case round =>
    obtain ⟨k, hk, rfl, hbw, HK⟩ := hrel
    have c0 := keepc hbw a0
    have c1 := keepc hbw a1
    have d0 := keepc hbw b0
    have d1 := keepc hbw b1
    by_cases hlt : k < 64
    · have q2 : (k : Int) + 1 ≤ 64 := by omega
      obtain ⟨f, hf⟩ : ∃ f, 64 - k = f + 1 := ⟨63 - k, by omega⟩
      have HF64 := hide hf
      clear hf
      cases hF : tFree m b ((k : Int) + 1)
      · cases hG : tGrey m b ((k : Int) + 1)
        · have hh : rHit m b m q ((k : Int) + 1) = -1 := hit_4 (fun h => by simp [hF] at h) (fun h => by simp [hG] at h) (fun h => by simp [hF] at h)
          have HT := hide (show tBetween m b m q = tLook m b m q (64 - (k + 1)) (((k + 1 : Nat) : Int) + 1) by rw [HK.out, HF64.out, look_no _ (by rw [← hit_turned (fun h => HQ.out (by have := h.2; omega))]; exact hh), show 64 - (k + 1) = f by have := HF64.out; omega]; rfl)
          have HF := hide hF
          have HG := hide hG
          clear hh
          clear hF hG
          go_wp2_with fail
          (with_reducible refine (rShade_any m b _ hm hb (by omega) (by omega) _).mono ?_)
          rintro e w1 ⟨rfl, hb1⟩
          replace c0 := keepc hb1 c0
          replace c1 := keepc hb1 c1
          replace d0 := keepc hb1 d0
          replace d1 := keepc hb1 d1
          replace hbw := bcall hbw hb1
          have hs1 := hb1.size
          clear hb1
          rw [HF.out]
          obtain ⟨w2, e2, hb2, hs2, x0, x1, -, -⟩ := box1 w1 (.int .u64 (shM m b ((k : Int) + 1))) (.int .u64 b) 28
          have HE2 := hide e2
          clear e2
          have A_c0 : ∀ ob, (w1.alloc ob).cell? ⟨w.heap.size, 0, none⟩ = some (.int .u64 m) := fun _ => keepc (bal _ _) c0
          replace c0 := keepc hb2 c0
          have A_c1 : ∀ ob, (w1.alloc ob).cell? ⟨w.heap.size, 1, none⟩ = some (.int .u64 b) := fun _ => keepc (bal _ _) c1
          replace c1 := keepc hb2 c1
          have A_d0 : ∀ ob, (w1.alloc ob).cell? ⟨w.heap.size + 1, 0, none⟩ = some (.int .u64 m) := fun _ => keepc (bal _ _) d0
          replace d0 := keepc hb2 d0
          have A_d1 : ∀ ob, (w1.alloc ob).cell? ⟨w.heap.size + 1, 1, none⟩ = some (.int .u64 q) := fun _ => keepc (bal _ _) d1
          replace d1 := keepc hb2 d1
          replace hbw := bcall hbw hb2
          clear hb2
          go_wp2_with fail
          rw [HE2.out]
          clear A_c0 A_c1 A_d0 A_d1
          (with_reducible refine (rScan_any m b _ hm hb (by omega) (by omega) _).mono ?_)
          rintro e w3 ⟨rfl, hb3⟩
          replace c0 := keepc hb3 c0
          replace c1 := keepc hb3 c1
          replace d0 := keepc hb3 d0
          replace d1 := keepc hb3 d1
          replace x0 := keepc hb3 x0
          replace x1 := keepc hb3 x1
          replace hbw := bcall hbw hb3
          have hs3 := hb3.size
          clear hb3
          rw [HG.out]
          obtain ⟨w4, e4, hb4, hs4, y0, y1, -, -⟩ := box1 w3 (.int .u64 m) (.int .u64 (scB m b ((k : Int) + 1))) 28
          have HE4 := hide e4
          clear e4
          have A_c0 : ∀ ob, (w3.alloc ob).cell? ⟨w.heap.size, 0, none⟩ = some (.int .u64 m) := fun _ => keepc (bal _ _) c0
          replace c0 := keepc hb4 c0
          have A_c1 : ∀ ob, (w3.alloc ob).cell? ⟨w.heap.size, 1, none⟩ = some (.int .u64 b) := fun _ => keepc (bal _ _) c1
          replace c1 := keepc hb4 c1
          have A_d0 : ∀ ob, (w3.alloc ob).cell? ⟨w.heap.size + 1, 0, none⟩ = some (.int .u64 m) := fun _ => keepc (bal _ _) d0
          replace d0 := keepc hb4 d0
          have A_d1 : ∀ ob, (w3.alloc ob).cell? ⟨w.heap.size + 1, 1, none⟩ = some (.int .u64 q) := fun _ => keepc (bal _ _) d1
          replace d1 := keepc hb4 d1
          have A_x0 : ∀ ob, (w3.alloc ob).cell? ⟨w1.heap.size, 0, none⟩ = some (.int .u64 (shM m b ((k : Int) + 1))) := fun _ => keepc (bal _ _) x0
          replace x0 := keepc hb4 x0
          have A_x1 : ∀ ob, (w3.alloc ob).cell? ⟨w1.heap.size, 1, none⟩ = some (.int .u64 b) := fun _ => keepc (bal _ _) x1
          replace x1 := keepc hb4 x1
          replace hbw := bcall hbw hb4
          clear hb4
          go_wp2_with fail
          rw [HE4.out]
          clear A_c0 A_c1 A_d0 A_d1 A_x0 A_x1
          (with_reducible refine (rFresh_any m b _ hm hb (by omega) (by omega) _).mono ?_)
          rintro e w5 ⟨rfl, hb5⟩
          replace c0 := keepc hb5 c0
          replace c1 := keepc hb5 c1
          replace d0 := keepc hb5 d0
          replace d1 := keepc hb5 d1
          replace x0 := keepc hb5 x0
          replace x1 := keepc hb5 x1
          replace y0 := keepc hb5 y0
          replace y1 := keepc hb5 y1
          replace hbw := bcall hbw hb5
          have hs5 := hb5.size
          clear hb5
          rw [HF.out]
          have A_c0 : ∀ ob, (w5.alloc ob).cell? ⟨w.heap.size, 0, none⟩ = some (.int .u64 m) := fun _ => keepc (bal _ _) c0
          have A_c1 : ∀ ob, (w5.alloc ob).cell? ⟨w.heap.size, 1, none⟩ = some (.int .u64 b) := fun _ => keepc (bal _ _) c1
          have A_d0 : ∀ ob, (w5.alloc ob).cell? ⟨w.heap.size + 1, 0, none⟩ = some (.int .u64 m) := fun _ => keepc (bal _ _) d0
          have A_d1 : ∀ ob, (w5.alloc ob).cell? ⟨w.heap.size + 1, 1, none⟩ = some (.int .u64 q) := fun _ => keepc (bal _ _) d1
          have A_x0 : ∀ ob, (w5.alloc ob).cell? ⟨w1.heap.size, 0, none⟩ = some (.int .u64 (shM m b ((k : Int) + 1))) := fun _ => keepc (bal _ _) x0
          have A_x1 : ∀ ob, (w5.alloc ob).cell? ⟨w1.heap.size, 1, none⟩ = some (.int .u64 b) := fun _ => keepc (bal _ _) x1
          have A_y0 : ∀ ob, (w5.alloc ob).cell? ⟨w3.heap.size, 0, none⟩ = some (.int .u64 m) := fun _ => keepc (bal _ _) y0
          have A_y1 : ∀ ob, (w5.alloc ob).cell? ⟨w3.heap.size, 1, none⟩ = some (.int .u64 (scB m b ((k : Int) + 1))) := fun _ => keepc (bal _ _) y1
          go_wp2
          go_roundw
          case rel => exact ⟨k + 1, by omega, by go_num, bcall hbw (bal _ _), HT⟩
          case measure => simp [Go.RowKit.intOf]; omega
        · by_cases e2 : scB m b ((k : Int) + 1) = q
          · subst e2
            have hh : rHit m b m (scB m b ((k : Int) + 1)) ((k : Int) + 1) = 2 := hit_2 (fun h => by simp [hF] at h) hG rfl rfl
            have HT := hide (show tBetween m b m (scB m b ((k : Int) + 1)) = (2, ((k : Int) + 1)) by rw [HK.out, HF64.out, look_yes _ (by rw [← hit_turned (fun h => HQ.out (by have := h.2; omega)), hh]; decide), ← hit_turned (fun h => HQ.out (by have := h.2; omega)), hh])
            have HF := hide hF
            have HG := hide hG
            clear hh
            clear hF hG
            go_wp2_with fail
            (with_reducible refine (rShade_any m b _ hm hb (by omega) (by omega) _).mono ?_)
            rintro e w1 ⟨rfl, hb1⟩
            replace c0 := keepc hb1 c0
            replace c1 := keepc hb1 c1
            replace d0 := keepc hb1 d0
            replace d1 := keepc hb1 d1
            replace hbw := bcall hbw hb1
            have hs1 := hb1.size
            clear hb1
            rw [HF.out]
            obtain ⟨w2, e2, hb2, hs2, x0, x1, -, -⟩ := box1 w1 (.int .u64 (shM m b ((k : Int) + 1))) (.int .u64 b) 28
            have HE2 := hide e2
            clear e2
            have A_c0 : ∀ ob, (w1.alloc ob).cell? ⟨w.heap.size, 0, none⟩ = some (.int .u64 m) := fun _ => keepc (bal _ _) c0
            replace c0 := keepc hb2 c0
            have A_c1 : ∀ ob, (w1.alloc ob).cell? ⟨w.heap.size, 1, none⟩ = some (.int .u64 b) := fun _ => keepc (bal _ _) c1
            replace c1 := keepc hb2 c1
            have A_d0 : ∀ ob, (w1.alloc ob).cell? ⟨w.heap.size + 1, 0, none⟩ = some (.int .u64 m) := fun _ => keepc (bal _ _) d0
            replace d0 := keepc hb2 d0
            have A_d1 : ∀ ob, (w1.alloc ob).cell? ⟨w.heap.size + 1, 1, none⟩ = some (.int .u64 (scB m b ((k : Int) + 1))) := fun _ => keepc (bal _ _) d1
            replace d1 := keepc hb2 d1
            replace hbw := bcall hbw hb2
            clear hb2
            go_wp2_with fail
            rw [HE2.out]
            clear A_c0 A_c1 A_d0 A_d1
            (with_reducible refine (rScan_any m b _ hm hb (by omega) (by omega) _).mono ?_)
            rintro e w3 ⟨rfl, hb3⟩
            replace c0 := keepc hb3 c0
            replace c1 := keepc hb3 c1
            replace d0 := keepc hb3 d0
            replace d1 := keepc hb3 d1
            replace x0 := keepc hb3 x0
            replace x1 := keepc hb3 x1
            replace hbw := bcall hbw hb3
            have hs3 := hb3.size
            clear hb3
            rw [HG.out]
            have A_c0 : ∀ ob, (w3.alloc ob).cell? ⟨w.heap.size, 0, none⟩ = some (.int .u64 m) := fun _ => keepc (bal _ _) c0
            have A_c1 : ∀ ob, (w3.alloc ob).cell? ⟨w.heap.size, 1, none⟩ = some (.int .u64 b) := fun _ => keepc (bal _ _) c1
            have A_d0 : ∀ ob, (w3.alloc ob).cell? ⟨w.heap.size + 1, 0, none⟩ = some (.int .u64 m) := fun _ => keepc (bal _ _) d0
            have A_d1 : ∀ ob, (w3.alloc ob).cell? ⟨w.heap.size + 1, 1, none⟩ = some (.int .u64 (scB m b ((k : Int) + 1))) := fun _ => keepc (bal _ _) d1
            have A_x0 : ∀ ob, (w3.alloc ob).cell? ⟨w1.heap.size, 0, none⟩ = some (.int .u64 (shM m b ((k : Int) + 1))) := fun _ => keepc (bal _ _) x0
            have A_x1 : ∀ ob, (w3.alloc ob).cell? ⟨w1.heap.size, 1, none⟩ = some (.int .u64 b) := fun _ => keepc (bal _ _) x1
            go_wp2
            refine bodyPost_ret (v := .tuple #[.int .i64 2, .int .i64 ((k : Int) + 1)]) (by simp [results, Tryd.results18, go_sem]) rfl ⟨?_, bcall hB (bcall hbw (bal _ _))⟩
            exact ret_ii (by rw [HT.out]) (by rw [HT.out])
          · have g2 : ¬ ((scB m b ((k : Int) + 1) : Nat) : Int) = (q : Int) := by omega
            have hh : rHit m b m q ((k : Int) + 1) = -1 := hit_4 (fun h => by simp [hF] at h) (fun h => e2 h.2.2) (fun h => by simp [hF] at h)
            have HT := hide (show tBetween m b m q = tLook m b m q (64 - (k + 1)) (((k + 1 : Nat) : Int) + 1) by rw [HK.out, HF64.out, look_no _ (by rw [← hit_turned (fun h => HQ.out (by have := h.2; omega))]; exact hh), show 64 - (k + 1) = f by have := HF64.out; omega]; rfl)
            have HF := hide hF
            have HG := hide hG
            clear hh e2
            clear hF hG
            go_wp2_with fail
            (with_reducible refine (rShade_any m b _ hm hb (by omega) (by omega) _).mono ?_)
            rintro e w1 ⟨rfl, hb1⟩
            replace c0 := keepc hb1 c0
            replace c1 := keepc hb1 c1
            replace d0 := keepc hb1 d0
            replace d1 := keepc hb1 d1
            replace hbw := bcall hbw hb1
            have hs1 := hb1.size
            clear hb1
            rw [HF.out]
            obtain ⟨w2, e2, hb2, hs2, x0, x1, -, -⟩ := box1 w1 (.int .u64 (shM m b ((k : Int) + 1))) (.int .u64 b) 28
            have HE2 := hide e2
            clear e2
            have A_c0 : ∀ ob, (w1.alloc ob).cell? ⟨w.heap.size, 0, none⟩ = some (.int .u64 m) := fun _ => keepc (bal _ _) c0
            replace c0 := keepc hb2 c0
            have A_c1 : ∀ ob, (w1.alloc ob).cell? ⟨w.heap.size, 1, none⟩ = some (.int .u64 b) := fun _ => keepc (bal _ _) c1
            replace c1 := keepc hb2 c1
            have A_d0 : ∀ ob, (w1.alloc ob).cell? ⟨w.heap.size + 1, 0, none⟩ = some (.int .u64 m) := fun _ => keepc (bal _ _) d0
            replace d0 := keepc hb2 d0
            have A_d1 : ∀ ob, (w1.alloc ob).cell? ⟨w.heap.size + 1, 1, none⟩ = some (.int .u64 q) := fun _ => keepc (bal _ _) d1
            replace d1 := keepc hb2 d1
            replace hbw := bcall hbw hb2
            clear hb2
            go_wp2_with fail
            rw [HE2.out]
            clear A_c0 A_c1 A_d0 A_d1
            (with_reducible refine (rScan_any m b _ hm hb (by omega) (by omega) _).mono ?_)
            rintro e w3 ⟨rfl, hb3⟩
            replace c0 := keepc hb3 c0
            replace c1 := keepc hb3 c1
            replace d0 := keepc hb3 d0
            replace d1 := keepc hb3 d1
            replace x0 := keepc hb3 x0
            replace x1 := keepc hb3 x1
            replace hbw := bcall hbw hb3
            have hs3 := hb3.size
            clear hb3
            rw [HG.out]
            obtain ⟨w4, e4, hb4, hs4, y0, y1, -, -⟩ := box1 w3 (.int .u64 m) (.int .u64 (scB m b ((k : Int) + 1))) 28
            have HE4 := hide e4
            clear e4
            have A_c0 : ∀ ob, (w3.alloc ob).cell? ⟨w.heap.size, 0, none⟩ = some (.int .u64 m) := fun _ => keepc (bal _ _) c0
            replace c0 := keepc hb4 c0
            have A_c1 : ∀ ob, (w3.alloc ob).cell? ⟨w.heap.size, 1, none⟩ = some (.int .u64 b) := fun _ => keepc (bal _ _) c1
            replace c1 := keepc hb4 c1
            have A_d0 : ∀ ob, (w3.alloc ob).cell? ⟨w.heap.size + 1, 0, none⟩ = some (.int .u64 m) := fun _ => keepc (bal _ _) d0
            replace d0 := keepc hb4 d0
            have A_d1 : ∀ ob, (w3.alloc ob).cell? ⟨w.heap.size + 1, 1, none⟩ = some (.int .u64 q) := fun _ => keepc (bal _ _) d1
            replace d1 := keepc hb4 d1
            have A_x0 : ∀ ob, (w3.alloc ob).cell? ⟨w1.heap.size, 0, none⟩ = some (.int .u64 (shM m b ((k : Int) + 1))) := fun _ => keepc (bal _ _) x0
            replace x0 := keepc hb4 x0
            have A_x1 : ∀ ob, (w3.alloc ob).cell? ⟨w1.heap.size, 1, none⟩ = some (.int .u64 b) := fun _ => keepc (bal _ _) x1
            replace x1 := keepc hb4 x1
            replace hbw := bcall hbw hb4
            clear hb4
            go_wp2_with fail
            rw [HE4.out]
            clear A_c0 A_c1 A_d0 A_d1 A_x0 A_x1
            (with_reducible refine (rFresh_any m b _ hm hb (by omega) (by omega) _).mono ?_)
            rintro e w5 ⟨rfl, hb5⟩
            replace c0 := keepc hb5 c0
            replace c1 := keepc hb5 c1
            replace d0 := keepc hb5 d0
            replace d1 := keepc hb5 d1
            replace x0 := keepc hb5 x0
            replace x1 := keepc hb5 x1
            replace y0 := keepc hb5 y0
            replace y1 := keepc hb5 y1
            replace hbw := bcall hbw hb5
            have hs5 := hb5.size
            clear hb5
            rw [HF.out]
            have A_c0 : ∀ ob, (w5.alloc ob).cell? ⟨w.heap.size, 0, none⟩ = some (.int .u64 m) := fun _ => keepc (bal _ _) c0
            have A_c1 : ∀ ob, (w5.alloc ob).cell? ⟨w.heap.size, 1, none⟩ = some (.int .u64 b) := fun _ => keepc (bal _ _) c1
            have A_d0 : ∀ ob, (w5.alloc ob).cell? ⟨w.heap.size + 1, 0, none⟩ = some (.int .u64 m) := fun _ => keepc (bal _ _) d0
            have A_d1 : ∀ ob, (w5.alloc ob).cell? ⟨w.heap.size + 1, 1, none⟩ = some (.int .u64 q) := fun _ => keepc (bal _ _) d1
            have A_x0 : ∀ ob, (w5.alloc ob).cell? ⟨w1.heap.size, 0, none⟩ = some (.int .u64 (shM m b ((k : Int) + 1))) := fun _ => keepc (bal _ _) x0
            have A_x1 : ∀ ob, (w5.alloc ob).cell? ⟨w1.heap.size, 1, none⟩ = some (.int .u64 b) := fun _ => keepc (bal _ _) x1
            have A_y0 : ∀ ob, (w5.alloc ob).cell? ⟨w3.heap.size, 0, none⟩ = some (.int .u64 m) := fun _ => keepc (bal _ _) y0
            have A_y1 : ∀ ob, (w5.alloc ob).cell? ⟨w3.heap.size, 1, none⟩ = some (.int .u64 (scB m b ((k : Int) + 1))) := fun _ => keepc (bal _ _) y1
            go_wp2
            go_roundw
            case rel => exact ⟨k + 1, by omega, by go_num, bcall hbw (bal _ _), HT⟩
            case measure => simp [Go.RowKit.intOf]; omega
      · have hG : tGrey m b ((k : Int) + 1) = false := by unfold tGrey; rw [(free_iff.1 hF).2.2, (free_iff.1 hF).2.1]; rfl
        have e1 : ¬ shM m b ((k : Int) + 1) = m := fun h => shM_ne hF h
        have g1 : ¬ ((shM m b ((k : Int) + 1) : Nat) : Int) = (m : Int) := by omega
        have hh : rHit m b m q ((k : Int) + 1) = -1 := hit_4 (fun h => e1 h.2.1) (fun h => by simp [hG] at h) (fun h => e1 h.2.1)
        have HT := hide (show tBetween m b m q = tLook m b m q (64 - (k + 1)) (((k + 1 : Nat) : Int) + 1) by rw [HK.out, HF64.out, look_no _ (by rw [← hit_turned (fun h => HQ.out (by have := h.2; omega))]; exact hh), show 64 - (k + 1) = f by have := HF64.out; omega]; rfl)
        have HF := hide hF
        have HG := hide hG
        clear hh e1
        clear hF hG
        go_wp2_with fail
        (with_reducible refine (rShade_any m b _ hm hb (by omega) (by omega) _).mono ?_)
        rintro e w1 ⟨rfl, hb1⟩
        replace c0 := keepc hb1 c0
        replace c1 := keepc hb1 c1
        replace d0 := keepc hb1 d0
        replace d1 := keepc hb1 d1
        replace hbw := bcall hbw hb1
        have hs1 := hb1.size
        clear hb1
        rw [HF.out]
        obtain ⟨w2, e2, hb2, hs2, x0, x1, -, -⟩ := box1 w1 (.int .u64 (shM m b ((k : Int) + 1))) (.int .u64 b) 28
        have HE2 := hide e2
        clear e2
        have A_c0 : ∀ ob, (w1.alloc ob).cell? ⟨w.heap.size, 0, none⟩ = some (.int .u64 m) := fun _ => keepc (bal _ _) c0
        replace c0 := keepc hb2 c0
        have A_c1 : ∀ ob, (w1.alloc ob).cell? ⟨w.heap.size, 1, none⟩ = some (.int .u64 b) := fun _ => keepc (bal _ _) c1
        replace c1 := keepc hb2 c1
        have A_d0 : ∀ ob, (w1.alloc ob).cell? ⟨w.heap.size + 1, 0, none⟩ = some (.int .u64 m) := fun _ => keepc (bal _ _) d0
        replace d0 := keepc hb2 d0
        have A_d1 : ∀ ob, (w1.alloc ob).cell? ⟨w.heap.size + 1, 1, none⟩ = some (.int .u64 q) := fun _ => keepc (bal _ _) d1
        replace d1 := keepc hb2 d1
        replace hbw := bcall hbw hb2
        clear hb2
        go_wp2_with fail
        rw [HE2.out]
        clear A_c0 A_c1 A_d0 A_d1
        (with_reducible refine (rScan_any m b _ hm hb (by omega) (by omega) _).mono ?_)
        rintro e w3 ⟨rfl, hb3⟩
        replace c0 := keepc hb3 c0
        replace c1 := keepc hb3 c1
        replace d0 := keepc hb3 d0
        replace d1 := keepc hb3 d1
        replace x0 := keepc hb3 x0
        replace x1 := keepc hb3 x1
        replace hbw := bcall hbw hb3
        have hs3 := hb3.size
        clear hb3
        rw [HG.out]
        obtain ⟨w4, e4, hb4, hs4, y0, y1, -, -⟩ := box1 w3 (.int .u64 m) (.int .u64 (scB m b ((k : Int) + 1))) 28
        have HE4 := hide e4
        clear e4
        have A_c0 : ∀ ob, (w3.alloc ob).cell? ⟨w.heap.size, 0, none⟩ = some (.int .u64 m) := fun _ => keepc (bal _ _) c0
        replace c0 := keepc hb4 c0
        have A_c1 : ∀ ob, (w3.alloc ob).cell? ⟨w.heap.size, 1, none⟩ = some (.int .u64 b) := fun _ => keepc (bal _ _) c1
        replace c1 := keepc hb4 c1
        have A_d0 : ∀ ob, (w3.alloc ob).cell? ⟨w.heap.size + 1, 0, none⟩ = some (.int .u64 m) := fun _ => keepc (bal _ _) d0
        replace d0 := keepc hb4 d0
        have A_d1 : ∀ ob, (w3.alloc ob).cell? ⟨w.heap.size + 1, 1, none⟩ = some (.int .u64 q) := fun _ => keepc (bal _ _) d1
        replace d1 := keepc hb4 d1
        have A_x0 : ∀ ob, (w3.alloc ob).cell? ⟨w1.heap.size, 0, none⟩ = some (.int .u64 (shM m b ((k : Int) + 1))) := fun _ => keepc (bal _ _) x0
        replace x0 := keepc hb4 x0
        have A_x1 : ∀ ob, (w3.alloc ob).cell? ⟨w1.heap.size, 1, none⟩ = some (.int .u64 b) := fun _ => keepc (bal _ _) x1
        replace x1 := keepc hb4 x1
        replace hbw := bcall hbw hb4
        clear hb4
        go_wp2_with fail
        rw [HE4.out]
        clear A_c0 A_c1 A_d0 A_d1 A_x0 A_x1
        (with_reducible refine (rFresh_any m b _ hm hb (by omega) (by omega) _).mono ?_)
        rintro e w5 ⟨rfl, hb5⟩
        replace c0 := keepc hb5 c0
        replace c1 := keepc hb5 c1
        replace d0 := keepc hb5 d0
        replace d1 := keepc hb5 d1
        replace x0 := keepc hb5 x0
        replace x1 := keepc hb5 x1
        replace y0 := keepc hb5 y0
        replace y1 := keepc hb5 y1
        replace hbw := bcall hbw hb5
        have hs5 := hb5.size
        clear hb5
        rw [HF.out]
        have A_c0 : ∀ ob, (w5.alloc ob).cell? ⟨w.heap.size, 0, none⟩ = some (.int .u64 m) := fun _ => keepc (bal _ _) c0
        have A_c1 : ∀ ob, (w5.alloc ob).cell? ⟨w.heap.size, 1, none⟩ = some (.int .u64 b) := fun _ => keepc (bal _ _) c1
        have A_d0 : ∀ ob, (w5.alloc ob).cell? ⟨w.heap.size + 1, 0, none⟩ = some (.int .u64 m) := fun _ => keepc (bal _ _) d0
        have A_d1 : ∀ ob, (w5.alloc ob).cell? ⟨w.heap.size + 1, 1, none⟩ = some (.int .u64 q) := fun _ => keepc (bal _ _) d1
        have A_x0 : ∀ ob, (w5.alloc ob).cell? ⟨w1.heap.size, 0, none⟩ = some (.int .u64 (shM m b ((k : Int) + 1))) := fun _ => keepc (bal _ _) x0
        have A_x1 : ∀ ob, (w5.alloc ob).cell? ⟨w1.heap.size, 1, none⟩ = some (.int .u64 b) := fun _ => keepc (bal _ _) x1
        have A_y0 : ∀ ob, (w5.alloc ob).cell? ⟨w3.heap.size, 0, none⟩ = some (.int .u64 m) := fun _ => keepc (bal _ _) y0
        have A_y1 : ∀ ob, (w5.alloc ob).cell? ⟨w3.heap.size, 1, none⟩ = some (.int .u64 (scB m b ((k : Int) + 1))) := fun _ => keepc (bal _ _) y1
        go_wp2
        go_roundw
        case rel => exact ⟨k + 1, by omega, by go_num, bcall hbw (bal _ _), HT⟩
        case measure => simp [Go.RowKit.intOf]; omega
    · have q2 : ¬ (k : Int) + 1 ≤ 64 := by omega
      have HT := hide (show tBetween m b m q = (-1, 0) by rw [HK.out, show 64 - k = 0 by omega]; rfl)
      go_wp2
      refine bodyPost_ret (v := .tuple #[.int .i64 (-1), .int .i64 0]) (by simp [results, Tryd.results18, go_sem]) rfl ⟨?_, bcall hB hbw⟩
      exact ret_ii (by rw [HT.out]) (by rw [HT.out])
set_option maxHeartbeats 4000000 in
theorem rBetween_any (m b p q : Nat) (hm : m < 18446744073709551616) (hb : b < 18446744073709551616) (w : World) :
    Calls Tryd.prog 18 #[tv m b, tv p q] w fun e w' => e = .returned (.tuple #[.int .i64 (tBetween m b p q).1, .int .i64 (tBetween m b p q).2]) ∧ Below w.heap.size w w' := by
  by_cases em : m = p
  · by_cases eb : b = q
    · subst em
      subst eb
      obtain ⟨w0, e0, hB, hs0, a0, a1, b0, b1⟩ := box2t w (.int .u64 m) (.int .u64 b) (.int .u64 m) (.int .u64 b) 28
      have HE0 := hide e0
      clear e0
      have gT := guardR
      have HT := hide (between_self m b)
      go_enter Tryd.func18, Tryd.ntmps18
      go_wp2
      refine bodyPost_ret (v := .tuple #[.int .i64 0, .int .i64 0]) (by simp [results, Tryd.results18, go_sem]) rfl ⟨?_, by rw [HE0.out]; exact hB⟩
      exact ret_ii (by rw [HT.out]) (by rw [HT.out])
    · subst em
      exact rBetween_eq m b q hm hb eb w
  · exact rBetween_ne m b p q hm hb em w
end Go.Proofs.YtpffknlbffnafaaDoor
