/- Layer tint: the document's own answer: Fresh, Between, Text. -/
import Derived.Test.YtpffknlbffnafaaDoorTintRef
import Derived.Test.YtpffknlbffnafaaDoorTintBetween
import Derived.Laws.IdiomStrings
namespace Go.Proofs.YtpffknlbffnafaaDoor
open Go.RowKit
/-- what the document's Between asks of one object -/
def rHit (m b p q : Nat) (o : Int) : Int :=
  if tFree m b o = true ∧ shM m b o = p ∧ b = q then 1 else if tGrey m b o = true ∧ m = p ∧ scB m b o = q then 2 else if tFree m b o = true ∧ shM m b o = p ∧ frB m b o = q then 3 else -1
theorem hit_turned {m b p q : Nat} (hne : ¬ (m = p ∧ b = q)) (o : Int) : rHit m b p q o = tTurned m b p q o := by
  unfold rHit tTurned
  have hn : ¬ (p = m ∧ q = b) := fun h => hne ⟨h.1.symm, h.2.symm⟩
  have c : ∀ x y : Nat, (x = p ∧ y = q) ↔ (p = x ∧ q = y) := fun x y => ⟨fun h => ⟨h.1.symm, h.2.symm⟩, fun h => ⟨h.1.symm, h.2.symm⟩⟩
  simp only [c]
  cases hF : tFree m b o
  · obtain ⟨e1, e2⟩ := free_no hF
    rw [e1, e2]
    cases hG : tGrey m b o
    · have e3 : scB m b o = b := by unfold scB; rw [hG]; rfl
      rw [e3]
      simp [hn]
    · simp [hn]
  · have hG : tGrey m b o = false := by
      unfold tGrey; rw [(free_iff.1 hF).2.2, (free_iff.1 hF).2.1]; rfl
    have e3 : scB m b o = b := by unfold scB; rw [hG]; rfl
    rw [hG, e3]
    simp [hn]
theorem hit_1 {m b p q : Nat} {o : Int} (h : tFree m b o = true) (h1 : shM m b o = p) (h2 : b = q) : rHit m b p q o = 1 := by unfold rHit; rw [if_pos ⟨h, h1, h2⟩]
theorem hit_2 {m b p q : Nat} {o : Int} (h : ¬ (tFree m b o = true ∧ shM m b o = p ∧ b = q)) (h0 : tGrey m b o = true) (h1 : m = p) (h2 : scB m b o = q) : rHit m b p q o = 2 := by unfold rHit; rw [if_neg h, if_pos ⟨h0, h1, h2⟩]
theorem hit_3 {m b p q : Nat} {o : Int} (h : ¬ (tFree m b o = true ∧ shM m b o = p ∧ b = q)) (h' : ¬ (tGrey m b o = true ∧ m = p ∧ scB m b o = q)) (h0 : tFree m b o = true) (h1 : shM m b o = p) (h2 : frB m b o = q) : rHit m b p q o = 3 := by unfold rHit; rw [if_neg h, if_neg h', if_pos ⟨h0, h1, h2⟩]
theorem hit_4 {m b p q : Nat} {o : Int} (h : ¬ (tFree m b o = true ∧ shM m b o = p ∧ b = q)) (h' : ¬ (tGrey m b o = true ∧ m = p ∧ scB m b o = q)) (h0 : ¬ (tFree m b o = true ∧ shM m b o = p ∧ frB m b o = q)) : rHit m b p q o = -1 := by unfold rHit; rw [if_neg h, if_neg h', if_neg h0]
set_option maxHeartbeats 4000000 in
theorem rFresh_any (m b : Nat) (o : Int) (hm : m < 18446744073709551616) (hb : b < 18446744073709551616) (h0 : -9223372036854775808 ≤ o) (h1 : o ≤ 9223372036854775807) (w : World) :
    Calls Tryd.prog 16 #[tv m b, .int .i64 o] w fun e w' => e = .returned (.tuple #[tv (shM m b o) (frB m b o), .bool (tFree m b o)]) ∧ Below w.heap.size w w' := by
  obtain ⟨w0, e0, hB, hs0, a0, a1, r0, r1, -, -, f0, f1⟩ := box3 w (.int .u64 m) (.int .u64 b) (.int .u64 0) (.int .u64 0) 28
  have HE0 := hide e0
  clear e0
  cases hF : tFree m b o
  all_goals
    have H := hide hF
    go_enter Tryd.func16, Tryd.ntmps16
    go_wp2_with fail
    rw [HE0.out]
    (with_reducible refine (rShade_any m b o hm hb h0 h1 _).mono ?_)
    rintro e w1 ⟨rfl, hb1⟩
    rw [H.out]
    replace f0 := keepf hb1 r0 f0
    replace f1 := keepf hb1 r1 f1
    replace a0 := keepc hb1 a0
    replace a1 := keepc hb1 a1
    replace r0 := keepc hb1 r0
    replace r1 := keepc hb1 r1
    replace hB := bcall hB hb1
    have hs1 := hb1.size
    clear hb1
    obtain ⟨w2, e2, hb2, hs2, c0, c1, -, -⟩ := box1 w1 (.int .u64 (shM m b o)) (.int .u64 b) 28
    have HE2 := hide e2
    clear e2
  · have E := hide (free_no hF)
    clear hF
    have A0 : ∀ ob, (w1.alloc ob).cell? ⟨w.heap.size, 0, none⟩ = some (.int .u64 m) := fun _ => keepc (bal _ _) a0
    have A1 : ∀ ob, (w1.alloc ob).cell? ⟨w.heap.size, 1, none⟩ = some (.int .u64 b) := fun _ => keepc (bal _ _) a1
    have R0 : ∀ ob, (w1.alloc ob).cell? ⟨w.heap.size + 1, 0, none⟩ = some (.int .u64 0) := fun _ => keepc (bal _ _) r0
    have R1 : ∀ ob, (w1.alloc ob).cell? ⟨w.heap.size + 1, 1, none⟩ = some (.int .u64 0) := fun _ => keepc (bal _ _) r1
    have F0 : ∀ ob, (w1.alloc ob).frozen? ⟨w.heap.size + 1, 0, none⟩ = false := fun _ => keepf (bal _ _) r0 f0
    have F1 : ∀ ob, (w1.alloc ob).frozen? ⟨w.heap.size + 1, 1, none⟩ = false := fun _ => keepf (bal _ _) r1 f1
    go_wp2
    refine bodyPost_ret (v := .tuple #[tv m b, .bool false]) (by simp [results, Tryd.results16, go_sem, R0, R1]) rfl ⟨ret_tb (tv_eq E.out.1.symm E.out.2.symm) rfl, ?_⟩
    exact bset (bset (bcall hB (bal _ _)) _ _ (by omega) _) _ _ (by omega) _
  · have G := hide (fresh_two hF)
    have E := hide (free_yes hF)
    clear hF
    go_wp2_with fail
    rw [HE2.out]
    replace hB := bcall hB hb2
    replace f0 := keepf hb2 r0 f0
    replace f1 := keepf hb2 r1 f1
    replace r0 := keepc hb2 r0
    replace r1 := keepc hb2 r1
    clear a0 a1 hb2
    (with_reducible refine (rScan_any (shM m b o) b o (shM_lt b o hm) hb h0 h1 _).mono ?_)
    rintro e w3 ⟨rfl, hb3⟩
    rw [G.out.2.1]
    replace f0 := keepf hb3 r0 f0
    replace f1 := keepf hb3 r1 f1
    replace r0 := keepc hb3 r0
    replace r1 := keepc hb3 r1
    replace hB := bcall hB hb3
    clear hb3 c0 c1
    have R0 : ∀ ob, (w3.alloc ob).cell? ⟨w.heap.size + 1, 0, none⟩ = some (.int .u64 0) := fun _ => keepc (bal _ _) r0
    have R1 : ∀ ob, (w3.alloc ob).cell? ⟨w.heap.size + 1, 1, none⟩ = some (.int .u64 0) := fun _ => keepc (bal _ _) r1
    have F0 : ∀ ob, (w3.alloc ob).frozen? ⟨w.heap.size + 1, 0, none⟩ = false := fun _ => keepf (bal _ _) r0 f0
    have F1 : ∀ ob, (w3.alloc ob).frozen? ⟨w.heap.size + 1, 1, none⟩ = false := fun _ => keepf (bal _ _) r1 f1
    go_wp2
    refine bodyPost_ret (v := .tuple #[tv (shM m b o) (frB m b o), .bool true]) (by simp [results, Tryd.results16, go_sem, R0, R1]) rfl ⟨ret_tb rfl rfl, ?_⟩
    exact bset (bset (bcall hB (bal _ _)) _ _ (by omega) _) _ _ (by omega) _
end Go.Proofs.YtpffknlbffnafaaDoor
