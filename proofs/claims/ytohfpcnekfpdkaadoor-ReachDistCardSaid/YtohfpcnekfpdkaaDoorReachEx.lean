/- Layer reach: the chapter's examples, as the statements ask them first. -/
import Derived.Test.YtohfpcnekfpdkaaDoorReachUse
import Derived.Test.YtohfpcnekfpdkaaDoorReachQ
namespace Go.Proofs.YtohfpcnekfpdkaaDoor
open Go.RowKit

def exG : Rws := [[2], [3], [1], [0]]
theorem exD : distF exG 2 = [2, 0, 1, -1] := by decide +kernel
theorem exF1 : fromF exG 1 = 7 := by decide +kernel
theorem exF2 : fromF exG 8 = 8 := by decide +kernel
theorem exF3 : fromF exG 0 = 0 := by decide +kernel
theorem exF4 : fromF exG 1099511627776 = 0 := by decide +kernel
theorem exV1 : viaF exG 1 0 = 3 := by decide +kernel
theorem exV2 : viaF exG 1 2 = 7 := by decide +kernel
theorem exF1z : ((fromF exG 1 : Nat) : Int) = 7 := by rw [exF1]; rfl
theorem exF2z : ((fromF exG 8 : Nat) : Int) = 8 := by rw [exF2]; rfl
theorem exF3z : ((fromF exG 0 : Nat) : Int) = 0 := by rw [exF3]; rfl
theorem exF4z : ((fromF exG 1099511627776 : Nat) : Int) = 0 := by rw [exF4]; rfl
theorem exV1z : ((viaF exG 1 0 : Nat) : Int) = 3 := by rw [exV1]; rfl
theorem exV2z : ((viaF exG 1 2 : Nat) : Int) = 7 := by rw [exV2]; rfl
theorem ints_one {w : World} {b : Nat} {x : Int} {t : TypeId} (h : w.heap[b]? = some (.cells #[.int .i64 x] t (0, 0))) : Ints w (.slice (some ⟨b, 0, none⟩) 1 1) [x] := by
  refine ⟨_, 1, rfl, Nat.le_refl _, by simp [maxLen], fun _ => ⟨b, 0, rfl, lt_of_block h, fun i p hp j u hu => ?_⟩⟩
  have hi : i = 0 := by have := (List.getElem?_eq_some_iff.1 hp).1; simpa using this
  have hj : j = 0 := by have := (List.getElem?_eq_some_iff.1 hu).1; simpa [ic] using this
  subst hi; subst hj
  simp at hp; subst hp
  simp [ic] at hu; subst hu
  exact cell_of_one h
theorem ints_all {w : World} {A : Option Addr} {n c : Nat} {l : List Int} (h : Ints w (.slice A n c) l) (h0 : 0 < l.length) : ∃ b off, A = some ⟨b, off, none⟩ ∧ b < w.heap.size ∧ ∀ (k : Nat) (x : Int), l[k]? = some x → w.cell? ⟨b, off + k, none⟩ = some (.int .i64 x) := by
  obtain ⟨b, off, rfl, hb, _⟩ := ints_at h h0
  refine ⟨b, off, rfl, hb, fun k x hx => ?_⟩
  have hk := (List.getElem?_eq_some_iff.1 hx).1
  obtain ⟨b', off', e, _, hc⟩ := ints_at h hk
  injection e with e; injection e with e1 e2
  subst e1; subst e2
  rw [List.getElem?_eq_getElem hk] at hx
  injection hx with hx
  rw [hc, hx]
abbrev exV (w : World) : Value := .slice (some ⟨w.heap.size + 1 + 1 + 1 + 1, 0, none⟩) 4 4
theorem ex_world (w : World) : ∃ w6, ((((((w.alloc (.cells #[.int .i64 2] 3)).alloc (.cells #[.int .i64 3] 3)).alloc (.cells #[.int .i64 1] 3)).alloc (.cells #[.int .i64 0] 3)).alloc
    (.cells #[.slice (some ⟨w.heap.size, 0, none⟩) 1 1, .slice (some ⟨w.heap.size + 1, 0, none⟩) 1 1, .slice (some ⟨w.heap.size + 1 + 1, 0, none⟩) 1 1, .slice (some ⟨w.heap.size + 1 + 1 + 1, 0, none⟩) 1 1] 54)).alloc (.cells #[.int .i64 1, exV w] 24)) = w6 ∧
    Grid w6 (exV w) exG ∧ Below w.heap.size w w6 ∧ w6.cell? ⟨w.heap.size + 1 + 1 + 1 + 1 + 1, 0, none⟩ = some (.int .i64 1) ∧ w6.cell? ⟨w.heap.size + 1 + 1 + 1 + 1 + 1, 1, none⟩ = some (exV w) := by
  obtain ⟨w6, e6⟩ : ∃ w6, ((((((w.alloc (.cells #[.int .i64 2] 3)).alloc (.cells #[.int .i64 3] 3)).alloc (.cells #[.int .i64 1] 3)).alloc (.cells #[.int .i64 0] 3)).alloc
    (.cells #[.slice (some ⟨w.heap.size, 0, none⟩) 1 1, .slice (some ⟨w.heap.size + 1, 0, none⟩) 1 1, .slice (some ⟨w.heap.size + 1 + 1, 0, none⟩) 1 1, .slice (some ⟨w.heap.size + 1 + 1 + 1, 0, none⟩) 1 1] 54)).alloc (.cells #[.int .i64 1, exV w] 24)) = w6 := ⟨_, rfl⟩
  have hh : w6.heap = ((((((w.heap.push (.cells #[.int .i64 2] 3)).push (.cells #[.int .i64 3] 3)).push (.cells #[.int .i64 1] 3)).push (.cells #[.int .i64 0] 3)).push
    (.cells #[.slice (some ⟨w.heap.size, 0, none⟩) 1 1, .slice (some ⟨w.heap.size + 1, 0, none⟩) 1 1, .slice (some ⟨w.heap.size + 1 + 1, 0, none⟩) 1 1, .slice (some ⟨w.heap.size + 1 + 1 + 1, 0, none⟩) 1 1] 54)).push (.cells #[.int .i64 1, exV w] 24)) := by rw [← e6]; rfl
  have b0 : w6.heap[w.heap.size]? = some (.cells #[.int .i64 2] 3 (0, 0)) := by rw [hh]; simp only [Array.getElem?_push, Array.size_push]; repeat (first | rw [if_pos trivial] | rw [if_neg (by omega)])
  have b1 : w6.heap[w.heap.size + 1]? = some (.cells #[.int .i64 3] 3 (0, 0)) := by rw [hh]; simp only [Array.getElem?_push, Array.size_push]; repeat (first | rw [if_pos trivial] | rw [if_neg (by omega)])
  have b2 : w6.heap[w.heap.size + 1 + 1]? = some (.cells #[.int .i64 1] 3 (0, 0)) := by rw [hh]; simp only [Array.getElem?_push, Array.size_push]; repeat (first | rw [if_pos trivial] | rw [if_neg (by omega)])
  have b3 : w6.heap[w.heap.size + 1 + 1 + 1]? = some (.cells #[.int .i64 0] 3 (0, 0)) := by rw [hh]; simp only [Array.getElem?_push, Array.size_push]; repeat (first | rw [if_pos trivial] | rw [if_neg (by omega)])
  have b4 : w6.heap[w.heap.size + 1 + 1 + 1 + 1]? = some (.cells #[.slice (some ⟨w.heap.size, 0, none⟩) 1 1, .slice (some ⟨w.heap.size + 1, 0, none⟩) 1 1, .slice (some ⟨w.heap.size + 1 + 1, 0, none⟩) 1 1, .slice (some ⟨w.heap.size + 1 + 1 + 1, 0, none⟩) 1 1] 54 (0, 0)) := by rw [hh]; simp only [Array.getElem?_push, Array.size_push]; repeat (first | rw [if_pos trivial] | rw [if_neg (by omega)])
  have b5 : w6.heap[w.heap.size + 1 + 1 + 1 + 1 + 1]? = some (.cells #[.int .i64 1, exV w] 24 (0, 0)) := by rw [hh]; simp only [Array.getElem?_push, Array.size_push]; repeat (first | rw [if_pos trivial] | rw [if_neg (by omega)])
  refine ⟨w6, e6, ⟨[.slice (some ⟨w.heap.size, 0, none⟩) 1 1, .slice (some ⟨w.heap.size + 1, 0, none⟩) 1 1, .slice (some ⟨w.heap.size + 1 + 1, 0, none⟩) 1 1, .slice (some ⟨w.heap.size + 1 + 1 + 1, 0, none⟩) 1 1], ?_, rfl, ?_⟩, ?_, ?_, ?_⟩
  · refine ⟨_, 4, rfl, Nat.le_refl _, by simp [maxLen], fun _ => ⟨_, 0, rfl, lt_of_block b4, fun i p hp j u hu => ?_⟩⟩
    have hj : j = 0 := by have := (List.getElem?_eq_some_iff.1 hu).1; simpa [one] using this
    subst hj
    simp [one] at hu; subst hu
    rw [cell_of_row _ _ _ _ _ _ b4, show 0 + i * 1 + 0 = i by omega]
    simpa using hp
  · intro i u l hu hl
    have hi : i < 4 := (List.getElem?_eq_some_iff.1 hl).1
    rcases (show i = 0 ∨ i = 1 ∨ i = 2 ∨ i = 3 by omega) with rfl | rfl | rfl | rfl
    · simp at hu; simp [exG] at hl; subst hu; subst hl; exact ints_one b0
    · simp at hu; simp [exG] at hl; subst hu; subst hl; exact ints_one b1
    · simp at hu; simp [exG] at hl; subst hu; subst hl; exact ints_one b2
    · simp at hu; simp [exG] at hl; subst hu; subst hl; exact ints_one b3
  · rw [← e6]
    exact (((((bal _ _).alloc (by simp) _).alloc (by simp; omega) _).alloc (by simp; omega) _).alloc (by simp; omega) _).alloc (by simp; omega) _
  · rw [cell_of_row _ _ _ _ _ _ b5]; rfl
  · rw [cell_of_row _ _ _ _ _ _ b5]; rfl
set_option maxRecDepth 100000 in
set_option maxHeartbeats 8000000 in
theorem examples_any (w : World) (hE : EnvT w) : Calls Tryd.prog 27 #[] w fun e w' => e = .returned (.bool true) ∧ Below w.heap.size w w' := by
  obtain ⟨w6, e6, hG, hB, x0, x1⟩ := ex_world w
  have HE := hide (hE.below hB)
  have HG := hide hG
  have HE6 := hide e6
  have X0 := hide x0
  have X1 := hide x1
  clear hE hG e6 x0 x1
  go_enter Tryd.func27, Tryd.ntmps27
  go_wp2_with fail
  rw [HE6.out]
  (with_reducible refine (Dist_c 1 (exV w) exG 2 _ (by decide) HG.out HE.out 2 rfl [2, 0, 1, -1] exD 4 rfl).mono ?_)
  rintro e w7 ⟨A, c, rfl, hc1, hc2, HD, hb7⟩
  have HG := hide (HG.out.below hb7)
  have HE := hide (HE.out.below hb7)
  have hB := bcall hB hb7
  have x0 := keepc hb7 X0.out
  have x1 := keepc hb7 X1.out
  go_wp2_with fail
  (with_reducible refine (From_c 1 (exV w) exG 1 _ (by decide) HG.out HE.out 1 rfl 7 exF1z).mono ?_)
  rintro e w8 ⟨rfl, hb8⟩
  have HG := hide (HG.out.below hb8)
  have HE := hide (HE.out.below hb8)
  have hB := bcall hB hb8
  have x0 := keepc hb8 x0
  have x1 := keepc hb8 x1
  have HD := hide (HD.out.below hb8)
  go_wp2_with fail
  (with_reducible refine (From_c 1 (exV w) exG 8 _ (by decide) HG.out HE.out 8 rfl 8 exF2z).mono ?_)
  rintro e w9 ⟨rfl, hb9⟩
  have HG := hide (HG.out.below hb9)
  have HE := hide (HE.out.below hb9)
  have hB := bcall hB hb9
  have x0 := keepc hb9 x0
  have x1 := keepc hb9 x1
  have HD := hide (HD.out.below hb9)
  go_wp2_with fail
  (with_reducible refine (From_c 1 (exV w) exG 0 _ (by decide) HG.out HE.out 0 rfl 0 exF3z).mono ?_)
  rintro e w10 ⟨rfl, hb10⟩
  have HG := hide (HG.out.below hb10)
  have HE := hide (HE.out.below hb10)
  have hB := bcall hB hb10
  have x0 := keepc hb10 x0
  have x1 := keepc hb10 x1
  have HD := hide (HD.out.below hb10)
  go_wp2_with fail
  (with_reducible refine (From_c 1 (exV w) exG 1099511627776 _ (by decide) HG.out HE.out 1099511627776 rfl 0 exF4z).mono ?_)
  rintro e w11 ⟨rfl, hb11⟩
  have HG := hide (HG.out.below hb11)
  have HE := hide (HE.out.below hb11)
  have hB := bcall hB hb11
  have x0 := keepc hb11 x0
  have x1 := keepc hb11 x1
  have HD := hide (HD.out.below hb11)
  obtain ⟨db, doff, rfl, -, hdc⟩ := ints_all HD.out (by decide)
  have d0 := hdc 0 2 rfl
  have d1 := hdc 1 0 rfl
  have d2 := hdc 2 1 rfl
  have d3 := hdc 3 (-1) rfl
  clear hdc
  rw [Nat.add_zero] at d0
  go_wp2_with fail
  (with_reducible refine (Via_c 1 (exV w) exG 1 0 _ (by decide) (by decide) HG.out HE.out 1 0 rfl rfl 3 exV1z).mono ?_)
  rintro e w12 ⟨rfl, hb12⟩
  have HG := hide (HG.out.below hb12)
  have HE := hide (HE.out.below hb12)
  have hB := bcall hB hb12
  have x0 := keepc hb12 x0
  have x1 := keepc hb12 x1
  clear d0 d1 d2 d3
  go_wp2_with fail
  (with_reducible refine (Via_c 1 (exV w) exG 1 2 _ (by decide) (by decide) HG.out HE.out 1 2 rfl rfl 7 exV2z).mono ?_)
  rintro e w13 ⟨rfl, hb13⟩
  have HG := hide (HG.out.below hb13)
  have HE := hide (HE.out.below hb13)
  have hB := bcall hB hb13
  have x0 := keepc hb13 x0
  have x1 := keepc hb13 x1
  go_wp2
  go_ret
  exact ⟨rfl, hB⟩
end Go.Proofs.YtohfpcnekfpdkaaDoor
