/- Layer chain: a machine that steps alone; a list that is laid. No program in this text. -/
import Derived.Test.YtpffknlbffnafaaChainW
namespace Go.Proofs.Ytpffknlbffnafaa

def runC : Nat → List Int → Cm → List Int × Cm × Nat
  | 0, m, c => (m, c, 0)
  | k + 1, m, c => if c.out = 0 then ((runC k (cstepF m c).1 (cstepF m c).2).1, (runC k (cstepF m c).1 (cstepF m c).2).2.1, (runC k (cstepF m c).1 (cstepF m c).2).2.2 + 1) else (m, c, 0)
theorem runC_stop (k : Nat) (m : List Int) (c : Cm) (h : c.out ≠ 0) : runC k m c = (m, c, 0) := by
  cases k with
  | zero => rfl
  | succ k => rw [runC, if_neg h]
theorem runC_le : ∀ (k : Nat) (m : List Int) (c : Cm), (runC k m c).2.2 ≤ k
  | 0, _, _ => Nat.le_refl _
  | k + 1, m, c => by
    rw [runC]
    split
    · have := runC_le k (cstepF m c).1 (cstepF m c).2
      simp only; omega
    · simp
theorem runC_snoc : ∀ (k : Nat) (m : List Int) (c : Cm), (runC k m c).2.1.out = 0 → (runC k m c).2.2 = k ∧ runC (k + 1) m c = ((cstepF (runC k m c).1 (runC k m c).2.1).1, (cstepF (runC k m c).1 (runC k m c).2.1).2, k + 1)
  | 0, m, c, h => by
    have h0 : c.out = 0 := h
    exact ⟨rfl, by simp [runC, h0]⟩
  | k + 1, m, c, h => by
    by_cases h0 : c.out = 0
    · rw [runC, if_pos h0] at h
      obtain ⟨h1, h2⟩ := runC_snoc k _ _ h
      refine ⟨?_, ?_⟩
      · rw [runC, if_pos h0]; simp only; omega
      · rw [runC, if_pos h0, h2]
        have e : runC (k + 1) m c = ((runC k (cstepF m c).1 (cstepF m c).2).1, (runC k (cstepF m c).1 (cstepF m c).2).2.1, (runC k (cstepF m c).1 (cstepF m c).2).2.2 + 1) := by rw [runC, if_pos h0]
        rw [e]
    · rw [runC_stop _ _ _ h0] at h
      exact absurd h h0
theorem runC_over (k : Nat) (m : List Int) (c : Cm) (h : (runC k m c).2.1.out ≠ 0) : runC (k + 1) m c = runC k m c := by
  induction k generalizing m c with
  | zero => exact runC_stop 1 m c h
  | succ k ih =>
    by_cases h0 : c.out = 0
    · rw [runC, if_pos h0] at h
      have := ih _ _ h
      rw [runC, if_pos h0, this]
      rw [show runC (k + 1) m c = ((runC k (cstepF m c).1 (cstepF m c).2).1, (runC k (cstepF m c).1 (cstepF m c).2).2.1, (runC k (cstepF m c).1 (cstepF m c).2).2.2 + 1) by rw [runC, if_pos h0]]
    · rw [runC_stop _ _ _ h0, runC_stop _ _ _ h0]
theorem runC_go {k : Nat} {m m' M : List Int} {c c' C : Cm} {N : Nat} (h0 : c.out = 0) (hs : cstepF m c = (m', c')) (hr : runC k m' c' = (M, C, N)) : runC (k + 1) m c = (M, C, N + 1) := by
  rw [runC, if_pos h0, hs]
  simp only [hr]
def EndsC (k : Nat) (m : List Int) (c : Cm) : Prop := (runC k m c).2.1.out ≠ 0
theorem endsC_now (k : Nat) (m : List Int) (c : Cm) (h : c.out ≠ 0) : EndsC k m c := by unfold EndsC; rw [runC_stop _ _ _ h]; exact h
theorem endsC_step {k : Nat} {m m' : List Int} {c c' : Cm} (h0 : c.out = 0) (hs : cstepF m c = (m', c')) (h : EndsC k m' c') : EndsC (k + 1) m c := by
  unfold EndsC; rw [runC, if_pos h0, hs]; exact h
section
variable {m : List Int} {j x : Nat}
theorem push_three (k : Nat) (hl : m.length = 10) (hj : j < 2) (h1 : 1 ≤ x) (h8 : x ≤ 8) (h0 y : Int) : EndsC (k + 3) m ⟨1, 0, j, 1, h0, x, y, 0⟩ := by
  have e1 : s64 ((1 : Int) + (x : Nat)) = ((1 + x : Nat) : Int) := by rw [s64_small (by omega) (by omega)]; rfl
  have s0 : cstepF m ⟨1, 0, j, 1, h0, x, y, 0⟩ = (m, ⟨1, 1, j, 1, m.getD j 0, x, y, 0⟩) := by simp [cstepF, cpushF, load_nat (m := m) j (by omega)]
  have s1 : cstepF m ⟨1, 1, j, 1, m.getD j 0, x, y, 0⟩ = (m.set (1 + x) (nodeF (m.getD j 0)), ⟨1, 2, j, 1, m.getD j 0, x, y, 0⟩) := by
    simp only [cstepF, cpushF, e1, store_nat (m := m) (1 + x) _ (by omega)]; simp
  have hg : (m.set (1 + x) (nodeF (m.getD j 0))).getD j 0 = m.getD j 0 := by rw [getD_set _ _ _ (by omega), if_neg (by omega)]
  refine endsC_step rfl s0 (endsC_step rfl s1 ?_)
  have hsw := swap_nat_yes (m := m.set (1 + x) (nodeF (m.getD j 0))) j (m.getD j 0) (toC ⟨1, 2, j, 1, m.getD j 0, x, y, 0⟩ x) (by rw [List.length_set]; omega) hg
  have s2 : cstepF (m.set (1 + x) (nodeF (m.getD j 0))) ⟨1, 2, j, 1, m.getD j 0, x, y, 0⟩ = ((m.set (1 + x) (nodeF (m.getD j 0))).set j (toC ⟨1, 2, j, 1, m.getD j 0, x, y, 0⟩ x), ⟨1, 3, j, 1, m.getD j 0, x, y, 1⟩) := by
    simp only [cstepF, cpushF, hsw.1, hsw.2]; simp
  exact endsC_step rfl s2 (endsC_now _ _ _ (by simp))
theorem pop_three (k : Nat) (hl : m.length = 10) (hj : j < 2) (h0 y : Int) (z : Int) : EndsC (k + 3) m ⟨2, 0, j, 1, h0, z, y, 0⟩ := by
  by_cases hn : nodeF (m.getD j 0) = 0
  · have s0 : cstepF m ⟨2, 0, j, 1, h0, z, y, 0⟩ = (m, ⟨2, 1, j, 1, m.getD j 0, z, y, 2⟩) := by simp only [cstepF, cpopF, load_nat (m := m) j (by omega), hn]; simp
    exact endsC_step rfl s0 (endsC_now _ _ _ (by simp))
  · have s0 : cstepF m ⟨2, 0, j, 1, h0, z, y, 0⟩ = (m, ⟨2, 1, j, 1, m.getD j 0, z, y, 0⟩) := by simp only [cstepF, cpopF, load_nat (m := m) j (by omega), if_neg hn]; simp
    obtain ⟨y', hy'⟩ : ∃ y', s64 (loadF m (s64 (1 + nodeF (m.getD j 0)))) = y' := ⟨_, rfl⟩
    have s1 : cstepF m ⟨2, 1, j, 1, m.getD j 0, z, y, 0⟩ = (m, ⟨2, 2, j, 1, m.getD j 0, z, y', 0⟩) := by simp only [cstepF, cpopF, hy']; simp
    have hsw := swap_nat_yes (m := m) j (m.getD j 0) (toC ⟨2, 2, j, 1, m.getD j 0, z, y', 0⟩ y') (by omega) rfl
    have s2 : cstepF m ⟨2, 2, j, 1, m.getD j 0, z, y', 0⟩ = (m.set j (toC ⟨2, 2, j, 1, m.getD j 0, z, y', 0⟩ y'), ⟨2, 3, j, 1, m.getD j 0, nodeF (m.getD j 0), y', 1⟩) := by
      simp only [cstepF, cpopF, hsw.1, hsw.2]; simp
    exact endsC_step rfl s0 (endsC_step rfl s1 (endsC_step rfl s2 (endsC_now _ _ _ (by simp))))
theorem push_two (k : Nat) (hl : m.length = 10) (hj : j < 2) (h1 : 1 ≤ x) (h8 : x ≤ 8) (h y : Int) : EndsC (k + 4) m ⟨1, 2, j, 1, h, x, y, 0⟩ := by
  by_cases e : m.getD j 0 = h
  · have hsw := swap_nat_yes (m := m) j h (toC ⟨1, 2, j, 1, h, x, y, 0⟩ x) (by omega) e
    have s2 : cstepF m ⟨1, 2, j, 1, h, x, y, 0⟩ = (m.set j (toC ⟨1, 2, j, 1, h, x, y, 0⟩ x), ⟨1, 3, j, 1, h, x, y, 1⟩) := by simp only [cstepF, cpushF, hsw.1, hsw.2]; simp
    exact endsC_step rfl s2 (endsC_now _ _ _ (by simp))
  · have hsw := swap_nat_no (m := m) j h (toC ⟨1, 2, j, 1, h, x, y, 0⟩ x) (by omega) e
    have s2 : cstepF m ⟨1, 2, j, 1, h, x, y, 0⟩ = (m, ⟨1, 0, j, 1, h, x, y, 0⟩) := by simp only [cstepF, cpushF, hsw.1, hsw.2]; simp
    exact endsC_step rfl s2 (push_three k hl hj h1 h8 _ _)
theorem pop_two (k : Nat) (hl : m.length = 10) (hj : j < 2) (h y z : Int) : EndsC (k + 4) m ⟨2, 2, j, 1, h, z, y, 0⟩ := by
  by_cases e : m.getD j 0 = h
  · have hsw := swap_nat_yes (m := m) j h (toC ⟨2, 2, j, 1, h, z, y, 0⟩ y) (by omega) e
    have s2 : cstepF m ⟨2, 2, j, 1, h, z, y, 0⟩ = (m.set j (toC ⟨2, 2, j, 1, h, z, y, 0⟩ y), ⟨2, 3, j, 1, h, nodeF h, y, 1⟩) := by simp only [cstepF, cpopF, hsw.1, hsw.2]; simp
    exact endsC_step rfl s2 (endsC_now _ _ _ (by simp))
  · have hsw := swap_nat_no (m := m) j h (toC ⟨2, 2, j, 1, h, z, y, 0⟩ y) (by omega) e
    have s2 : cstepF m ⟨2, 2, j, 1, h, z, y, 0⟩ = (m, ⟨2, 0, j, 1, h, z, y, 0⟩) := by simp only [cstepF, cpopF, hsw.1, hsw.2]; simp
    exact endsC_step rfl s2 (pop_three k hl hj _ _ _)
end
/-- whoever stands wherever comes to its end, alone, in six steps -/
theorem chain_stops {hi : Nat} {m : List Int} {who : List Cm} {hs : List Nat} {V : Nat → Nat} {L : Nat → List Nat} (h : CI hi m who hs V L) {k x : Nat} {c : Cm} (hc : who[k]? = some c) (hx : hs[k]? = some x) : EndsC 6 m c := by
  have hl := h.two.len
  cases h.mc k c x hc hx with
  | idle _ hne => exact endsC_now _ _ _ hne
  | push0 j h0 y hj hp => exact push_three 3 hl hj hp (h.alone hx hp).1 _ _
  | push1 j v n y hj hp hok =>
    have h8 := (h.alone hx hp).1
    have e1 : s64 ((1 : Int) + (x : Nat)) = ((1 + x : Nat) : Int) := by rw [s64_small (by omega) (by omega)]; rfl
    have s1 : cstepF m ⟨1, 1, j, 1, packF v n, x, y, 0⟩ = (m.set (1 + x) (nodeF (packF v n)), ⟨1, 2, j, 1, packF v n, x, y, 0⟩) := by
      simp only [cstepF, cpushF, e1, store_nat (m := m) (1 + x) _ (by omega)]; simp
    exact endsC_step rfl s1 (push_two 1 (by rw [List.length_set]; exact hl) hj hp h8 _ _)
  | push2 j v n y hj hp hok hn => exact push_two 2 hl hj hp (h.alone hx hp).1 _ _
  | pop0 j h0 y hj hp => exact pop_three 3 hl hj _ _ _
  | pop1 j v n y hj hp hok h1 =>
    obtain ⟨y', hy'⟩ : ∃ y', s64 (loadF m (s64 (1 + nodeF (packF v n)))) = y' := ⟨_, rfl⟩
    have s1 : cstepF m ⟨2, 1, j, 1, packF v n, 0, y, 0⟩ = (m, ⟨2, 2, j, 1, packF v n, 0, y', 0⟩) := by simp only [cstepF, cpopF, hy']; simp
    exact endsC_step rfl s1 (pop_two 1 hl hj _ _ _)
  | pop2 j v n y hj hp hok h1 hy => exact pop_two 2 hl hj _ _ _

/-! ### one list, alone -/
structure One (N v : Nat) (m : List Int) (L : List Nat) : Prop where
  len : m.length = N + 2
  n1 : N ≤ 1000
  vb : v ≤ 1000000
  hd : m.getD 0 0 = packF v (fstN L)
  ch : Chained m 1 N (fstN L : Nat) L
section
variable {N v : Nat} {m : List Int} {L : List Nat}
theorem fst_le' (h : One N v m L) : fstN L ≤ N := by
  have hc := chained_le h.ch
  unfold fstN
  cases L with
  | nil => simp
  | cons x l => exact (hc x (by simp)).2
theorem one_push (h : One N v m L) (hv : v < 1000000) {x : Nat} (h1 : 1 ≤ x) (hN : x ≤ N) (hx : x ∉ L) :
    ∃ m' c, runC 9 m (startC 1 0 1 x) = (m', c, 3) ∧ c.out = 1 ∧ One N (v + 1) m' (x :: L) := by
  have hl := h.len
  have hn1 := h.n1
  have hf := fst_le' h
  have e1 : s64 ((1 : Int) + (x : Nat)) = ((1 + x : Nat) : Int) := by rw [s64_small (by omega) (by omega)]; rfl
  have e2 : nodeF (packF v (fstN L : Nat)) = (fstN L : Nat) := pack_node (by omega) (by omega)
  have e3 : toC ⟨1, 2, 0, 1, packF v (fstN L : Nat), x, 0, 0⟩ (x : Nat) = packF ((v + 1 : Nat) : Int) (x : Nat) := by
    unfold toC; simp only; rw [pack_ver (by omega) (by omega) (by omega) (by omega)]; rfl
  have hload : loadF m 0 = packF v (fstN L : Nat) := by have := load_nat (m := m) 0 (by omega); rw [show ((0 : Nat) : Int) = 0 from rfl] at this; rw [this]; exact h.hd
  have s0 : cstepF m (startC 1 0 1 x) = (m, ⟨1, 1, 0, 1, packF v (fstN L : Nat), x, 0, 0⟩) := by simp [startC, cstepF, cpushF, hload]
  have s1 : cstepF m ⟨1, 1, 0, 1, packF v (fstN L : Nat), x, 0, 0⟩ = (m.set (1 + x) (fstN L : Nat), ⟨1, 2, 0, 1, packF v (fstN L : Nat), x, 0, 0⟩) := by
    simp only [cstepF, cpushF, e1, e2, store_nat (m := m) (1 + x) _ (by omega)]; simp
  have hg : (m.set (1 + x) (fstN L : Nat)).getD 0 0 = packF v (fstN L : Nat) := by rw [getD_set _ _ _ (by omega), if_neg (by omega)]; exact h.hd
  have hsw := swap_nat_yes (m := m.set (1 + x) (fstN L : Nat)) 0 (packF v (fstN L : Nat)) (packF ((v + 1 : Nat) : Int) (x : Nat)) (by rw [List.length_set]; omega) hg
  rw [show ((0 : Nat) : Int) = 0 from rfl] at hsw
  have s2 : cstepF (m.set (1 + x) (fstN L : Nat)) ⟨1, 2, 0, 1, packF v (fstN L : Nat), x, 0, 0⟩ = ((m.set (1 + x) (fstN L : Nat)).set 0 (packF ((v + 1 : Nat) : Int) (x : Nat)), ⟨1, 3, 0, 1, packF v (fstN L : Nat), x, 0, 1⟩) := by
    simp only [cstepF, cpushF, e3, hsw.1, hsw.2]; simp
  refine ⟨_, _, runC_go rfl s0 (runC_go rfl s1 (runC_go rfl s2 (runC_stop _ _ _ (by simp)))), rfl, ⟨by simp [hl], hn1, by omega, ?_, ⟨rfl, h1, hN, ?_⟩⟩⟩
  · rw [getD_set _ _ _ (by rw [List.length_set]; omega), if_pos rfl]; rfl
  · rw [getD_set _ _ _ (by rw [List.length_set]; omega), if_neg (by omega), getD_set _ _ _ (by omega), if_pos rfl]
    have hne : ∀ y ∈ L, 1 + y ≠ 1 + x := fun y hy e => by
      have e5 : y = x := by omega
      subst e5
      exact hx hy
    exact chained_set (by rw [List.length_set]; omega) (chained_set (by omega) h.ch hne) fun y hy => by omega
theorem one_pop (h : One N v m L) (hv : v < 1000000) {a : Nat} {l : List Nat} (hL : L = a :: l) (x : Int) :
    ∃ m' c, runC 9 m (startC 2 0 1 x) = (m', c, 3) ∧ c.out = 1 ∧ c.x = (a : Int) ∧ One N (v + 1) m' l := by
  subst hL
  have hl := h.len
  have hn1 := h.n1
  have hch := h.ch
  have ha1 := hch.2.1
  have haN := hch.2.2.1
  have hp2 := chained_fst hch.2.2.2
  have hlN : fstN l ≤ N := by
    have := chained_le hch.2.2.2
    unfold fstN
    cases l with
    | nil => simp
    | cons b r => exact (this b (by simp)).2
  have ef : fstN (a :: l) = a := rfl
  have hhd := h.hd
  rw [ef] at hhd
  have e1 : s64 ((1 : Int) + (a : Nat)) = ((1 + a : Nat) : Int) := by rw [s64_small (by omega) (by omega)]; rfl
  have e2 : nodeF (packF v (a : Nat)) = (a : Nat) := pack_node (by omega) (by omega)
  have e3 : toC ⟨2, 2, 0, 1, packF v (a : Nat), x, (fstN l : Nat), 0⟩ (fstN l : Nat) = packF ((v + 1 : Nat) : Int) (fstN l : Nat) := by
    unfold toC; simp only; rw [pack_ver (by omega) (by omega) (by omega) (by omega)]; rfl
  have e4 : s64 ((fstN l : Nat) : Int) = (fstN l : Nat) := s64_small (by omega) (by omega)
  have hload : loadF m 0 = packF v (a : Nat) := by have := load_nat (m := m) 0 (by omega); rw [show ((0 : Nat) : Int) = 0 from rfl] at this; rw [this]; exact hhd
  have s0 : cstepF m (startC 2 0 1 x) = (m, ⟨2, 1, 0, 1, packF v (a : Nat), x, 0, 0⟩) := by
    simp only [startC, cstepF, cpopF, hload, e2, if_neg (show ¬ ((a : Nat) : Int) = 0 by omega)]; simp
  have s1 : cstepF m ⟨2, 1, 0, 1, packF v (a : Nat), x, 0, 0⟩ = (m, ⟨2, 2, 0, 1, packF v (a : Nat), x, (fstN l : Nat), 0⟩) := by
    simp only [cstepF, cpopF, e1, e2, load_nat (m := m) (1 + a) (by omega), hp2, e4]; simp
  have hsw := swap_nat_yes (m := m) 0 (packF v (a : Nat)) (packF ((v + 1 : Nat) : Int) (fstN l : Nat)) (by omega) hhd
  rw [show ((0 : Nat) : Int) = 0 from rfl] at hsw
  have s2 : cstepF m ⟨2, 2, 0, 1, packF v (a : Nat), x, (fstN l : Nat), 0⟩ = (m.set 0 (packF ((v + 1 : Nat) : Int) (fstN l : Nat)), ⟨2, 3, 0, 1, packF v (a : Nat), (a : Nat), (fstN l : Nat), 1⟩) := by
    simp only [cstepF, cpopF, e2, e3, hsw.1, hsw.2]; simp
  refine ⟨_, _, runC_go rfl s0 (runC_go rfl s1 (runC_go rfl s2 (runC_stop _ _ _ (by simp)))), rfl, rfl, ⟨by simp [hl], hn1, by omega, ?_, ?_⟩⟩
  · rw [getD_set _ _ _ (by omega), if_pos rfl]
  · rw [← hp2]
    exact chained_set (by omega) hch.2.2.2 fun y hy => by omega
theorem one_none (h : One N v m []) (x : Int) : ∃ c, runC 9 m (startC 2 0 1 x) = (m, c, 1) ∧ c.out = 2 := by
  have hl := h.len
  have hvb := h.vb
  have hload : loadF m 0 = packF v 0 := by have := load_nat (m := m) 0 (by omega); rw [show ((0 : Nat) : Int) = 0 from rfl] at this; rw [this]; exact h.hd
  have e2 : nodeF (packF v 0) = 0 := pack_node (by omega) (by omega)
  have s0 : cstepF m (startC 2 0 1 x) = (m, ⟨2, 1, 0, 1, packF v 0, x, 0, 2⟩) := by simp only [startC, cstepF, cpopF, hload, e2]; simp
  exact ⟨_, runC_go rfl s0 (runC_stop _ _ _ (by simp)), rfl⟩
theorem one_list (h : One N v m L) (hlen : L.length ≤ 99) : listF m 0 1 99 = L.map fun (x : Nat) => (x : Int) := by
  have hl := h.len
  have hn1 := h.n1
  have hf := fst_le' h
  have hload : loadF m 0 = packF v (fstN L : Nat) := by have := load_nat (m := m) 0 (by omega); rw [show ((0 : Nat) : Int) = 0 from rfl] at this; rw [this]; exact h.hd
  unfold listF
  rw [hload, pack_node (by omega) (by omega)]
  have := list_chained (nb := 1) (N := N) (by omega) (by omega) (min (max (99 : Int) 0) 1000).toNat h.ch (fun x hx => by have := chained_val h.ch x hx; omega)
  rw [show ((1 : Nat) : Int) = 1 from rfl] at this
  have e : (min (max (99 : Int) 0) 1000).toNat = 99 := by decide
  rw [e] at this ⊢
  rw [this, List.take_of_length_le hlen]
end

/-! ### what is laid is listed -/
theorem lay_other {nb : Nat} : ∀ (l : List Nat) (m : List Int) (i : Nat), (∀ x ∈ l, nb + x < m.length ∧ x ≤ 1000000) → nb ≤ 1000000 → (∀ x ∈ l, nb + x ≠ i) → (layCells m nb (l.map fun (x : Nat) => (x : Int))).getD i 0 = m.getD i 0 ∧ (layCells m nb (l.map fun (x : Nat) => (x : Int))).length = m.length
  | [], _, _, _, _, _ => ⟨rfl, rfl⟩
  | [x], m, i, h, hnb, hi => by
    have hx := h x (by simp)
    have e : s64 ((nb : Int) + (x : Nat)) = ((nb + x : Nat) : Int) := by rw [s64_small (by omega) (by omega)]; rfl
    simp only [List.map_cons, List.map_nil, layCells, e, store_nat (m := m) (nb + x) _ hx.1]
    have := hi x (by simp)
    exact ⟨by rw [getD_set _ _ _ hx.1, if_neg (by omega)], by simp⟩
  | x :: y :: l, m, i, h, hnb, hi => by
    have hx := h x (by simp)
    have e : s64 ((nb : Int) + (x : Nat)) = ((nb + x : Nat) : Int) := by rw [s64_small (by omega) (by omega)]; rfl
    simp only [List.map_cons, layCells, e, store_nat (m := m) (nb + x) _ hx.1]
    have hne := hi x (by simp)
    have ih := lay_other (y :: l) (m.set (nb + x) (w64 (y : Nat))) i (fun z hz => by rw [List.length_set]; exact h z (by simp at hz ⊢; exact .inr hz)) hnb (fun z hz => hi z (by simp at hz ⊢; exact .inr hz))
    rw [List.map_cons, getD_set _ _ _ hx.1, if_neg (by omega), List.length_set] at ih
    exact ih
theorem lay_chained {nb N : Nat} (hnb : nb ≤ 1000000) (hN : N ≤ 1000000) : ∀ (l : List Nat) (m : List Int), l.Nodup → (∀ x ∈ l, 1 ≤ x ∧ x ≤ N) → nb + N < m.length → Chained (layCells m nb (l.map fun (x : Nat) => (x : Int))) nb N (fstN l : Nat) l
  | [], _, _, _, _ => rfl
  | [x], m, _, h, hl => by
    have hx := h x (by simp)
    have e : s64 ((nb : Int) + (x : Nat)) = ((nb + x : Nat) : Int) := by rw [s64_small (by omega) (by omega)]; rfl
    refine ⟨rfl, hx.1, hx.2, ?_⟩
    simp only [List.map_cons, List.map_nil, layCells, e, store_nat (m := m) (nb + x) _ (show nb + x < m.length by omega)]
    rw [getD_set _ _ _ (by omega), if_pos rfl]
    rfl
  | x :: y :: l, m, hn, h, hl => by
    have hx := h x (by simp)
    have hy := h y (by simp)
    obtain ⟨hn1, hn2⟩ := List.nodup_cons.1 hn
    have e : s64 ((nb : Int) + (x : Nat)) = ((nb + x : Nat) : Int) := by rw [s64_small (by omega) (by omega)]; rfl
    have hw : w64 (y : Nat) = (y : Nat) := w64_small (by omega) (by omega)
    have hh : layCells m nb ((x :: y :: l).map fun (x : Nat) => (x : Int)) = layCells (m.set (nb + x) (y : Nat)) nb ((y :: l).map fun (x : Nat) => (x : Int)) := by
      simp only [List.map_cons, layCells, e, store_nat (m := m) (nb + x) _ (show nb + x < m.length by omega), hw]
    have ih := lay_chained hnb hN (y :: l) (m.set (nb + x) (y : Nat)) hn2 (fun z hz => h z (by simp at hz ⊢; exact .inr hz)) (by rw [List.length_set]; exact hl)
    have ho := lay_other (nb := nb) (y :: l) (m.set (nb + x) (y : Nat)) (nb + x) (fun z hz => by
      have := h z (by simp at hz ⊢; exact .inr hz)
      rw [List.length_set]; omega) hnb (fun z hz e => by
      have e5 : z = x := by omega
      subst e5
      exact hn1 hz)
    rw [hh]
    refine ⟨rfl, hx.1, hx.2, ?_⟩
    rw [ho.1, getD_set _ _ _ (by omega), if_pos rfl]
    exact ih
theorem lay_list {hd nb N most : Nat} (hnb : nb ≤ 400000) (hN : N ≤ 400000) (hh : hd < nb) (l : List Nat) (m : List Int) (hn : l.Nodup) (h : ∀ x ∈ l, 1 ≤ x ∧ x ≤ N) (hl : nb + N < m.length) (hlen : l.length ≤ 1000) (hv0 : most ≤ 1000) :
    listF (layF m hd nb (l.map fun (x : Nat) => (x : Int))) hd nb most = (l.take most).map (fun (x : Nat) => (x : Int)) ∧ (layF m hd nb (l.map fun (x : Nat) => (x : Int))).getD hd 0 = packF 0 (fstN l : Nat) ∧ (layF m hd nb (l.map fun (x : Nat) => (x : Int))).length = m.length := by
  have ho := lay_other (nb := nb) l m hd (fun z hz => by have := h z hz; omega) (by omega) (fun z hz => by omega)
  have hc := lay_chained (by omega) (by omega) l m hn h hl
  have e0 : (l.map fun (x : Nat) => (x : Int)).headD 0 = (fstN l : Nat) := by cases l <;> rfl
  unfold layF
  rw [e0]
  have hlL := ho.2
  generalize layCells m nb (l.map fun (x : Nat) => (x : Int)) = M at *
  rw [store_nat (m := M) hd _ (by omega)]
  have hc2 : Chained (M.set hd (packF 0 (fstN l : Nat))) nb N (fstN l : Nat) l := chained_set (by omega) hc fun z hz => by omega
  have hg : (M.set hd (packF 0 (fstN l : Nat))).getD hd 0 = packF 0 (fstN l : Nat) := by rw [getD_set _ _ _ (by omega), if_pos rfl]
  have hf : fstN l ≤ N := by
    unfold fstN
    cases l with
    | nil => simp
    | cons b r => exact (h b (by simp)).2
  refine ⟨?_, hg, by simp; omega⟩
  unfold listF
  rw [load_nat hd (by rw [List.length_set]; omega), hg, pack_node (by omega) (by omega)]
  have := list_chained (nb := nb) (N := N) (m := M.set hd (packF 0 (fstN l : Nat))) (by rw [List.length_set]; omega) (by omega) (min (max (most : Int) 0) 1000).toNat hc2 (fun x hx => by have := chained_val hc2 x hx; omega)
  rw [this, show (min (max (most : Int) 0) 1000).toNat = most by omega]
end Go.Proofs.Ytpffknlbffnafaa
