/- Layer chain: one step keeps what must be so. No program in this text. -/
import Derived.Test.YtpffknlbffnafaaChainI
namespace Go.Proofs.Ytpffknlbffnafaa

section
variable {hi : Nat} {m : List Int} {who : List Cm} {hs : List Nat} {V : Nat → Nat} {L : Nat → List Nat}
theorem CI.turn (h : CI hi m who hs V L) {k : Nat} (hk : k < 5) {hi' : Nat} {m' : List Int} {V' : Nat → Nat} {L' : Nat → List Nat} {c' : Cm} {x' : Nat} (two' : Two hi' m' V' L') (own : MC m' V' x' c')
    (oth : ∀ (i : Nat) (c : Cm) (x : Nat), i ≠ k → who[i]? = some c → hs[i]? = some x → MC m' V' x c)
    (cnt' : ∀ z, 1 ≤ z → (hs.set k x').count z + (L' 0).count z + (L' 1).count z = if z ≤ 8 then 1 else 0) : CI hi' m' (who.set k c') (hs.set k x') V' L' where
  two := two'
  wl := by rw [List.length_set]; exact h.wl
  hl := by rw [List.length_set]; exact h.hl
  mc := fun i c x hc hx => by
    have hwl := h.wl
    have hhl := h.hl
    by_cases e : i = k
    · subst e
      rw [List.getElem?_set_self (by omega)] at hc hx
      cases hc; cases hx
      exact own
    · rw [List.getElem?_set_ne (fun h => e h.symm)] at hc hx
      exact oth i c x e hc hx
  cnt := cnt'
theorem set_self_get {l : List Nat} {k x : Nat} (h : l[k]? = some x) : l.set k x = l := by
  obtain ⟨hk, rfl⟩ := List.getElem?_eq_some_iff.1 h
  exact List.set_getElem_self hk
theorem count_set' {l : List Nat} {k x : Nat} (h : l[k]? = some x) (y z : Nat) : (l.set k y).count z + (if x = z then 1 else 0) = l.count z + (if y = z then 1 else 0) := by
  obtain ⟨hk, e⟩ := List.getElem?_eq_some_iff.1 h
  have hc := List.count_set (a := y) (b := z) hk
  rw [e] at hc
  have hp : x = z → 0 < l.count z := fun e2 => List.count_pos_iff.2 (by rw [← e2]; exact List.mem_of_getElem? h)
  by_cases e1 : x = z
  · have := hp e1
    have b1 : (x == z) = true := by simp [e1]
    rw [b1, if_pos rfl] at hc
    rw [if_pos e1]
    by_cases e2 : y = z
    · have b2 : (y == z) = true := by simp [e2]
      rw [b2, if_pos rfl] at hc; rw [if_pos e2]; omega
    · have b2 : (y == z) = false := by simp [e2]
      rw [b2] at hc; rw [if_neg e2]; simp at hc; omega
  · have b1 : (x == z) = false := by simp [e1]
    rw [b1] at hc
    rw [if_neg e1]
    by_cases e2 : y = z
    · have b2 : (y == z) = true := by simp [e2]
      rw [b2, if_pos rfl] at hc; rw [if_pos e2]; simp at hc; omega
    · have b2 : (y == z) = false := by simp [e2]
      rw [b2] at hc; rw [if_neg e2]; simp at hc; omega
theorem up_sum (j : Nat) (hj : j < 2) : upN V j 0 + upN V j 1 = V 0 + V 1 + 1 := by
  rcases (show j = 0 ∨ j = 1 by omega) with rfl | rfl <;> simp [upN] <;> omega
theorem upL_count (j : Nat) (hj : j < 2) (l : List Nat) (z : Nat) : (upL L j l 0).count z + (upL L j l 1).count z + (L j).count z = (L 0).count z + (L 1).count z + l.count z := by
  rcases (show j = 0 ∨ j = 1 by omega) with rfl | rfl <;> simp [upL] <;> omega
theorem load_head (h : Two hi m V L) {j : Nat} (hj : j < 2) : loadF m (j : Int) = packF (V j) (fstN (L j)) := by
  rw [load_nat j (by have := h.len; omega)]; exact h.hd j hj
theorem node_fst (h : Two hi m V L) {j : Nat} (hj : j < 2) : nodeF (packF (V j) (fstN (L j))) = (fstN (L j) : Nat) := by
  have := fst_le h hj
  exact pack_node (by omega) (by omega)
theorem to_eq {v n : Nat} {kind pc j x y out : Int} {a : Int} (hv : v ≤ 1000000) (hn : n ≤ 8) : toC ⟨kind, pc, j, 1, packF v n, x, y, out⟩ a = packF ((v + 1 : Nat) : Int) a := by
  unfold toC
  simp only
  rw [pack_ver (by omega) (by omega) (by omega) (by omega)]
  rfl
/-- where the head is what was read -/
theorem head_is (h : Two hi m V L) (hhi : hi ≤ 900000) {j v n : Nat} (hj : j < 2) (hok : HOk m V j v n) (e : m.getD j 0 = packF v n) : v = V j ∧ n = fstN (L j) := by
  have hf := fst_le h hj
  have hv := h.vb j hj
  have h1 := hok.1
  have h2 := hok.2.1
  rw [h.hd j hj] at e
  obtain ⟨e1, e2⟩ := pack_inj (by omega) (by omega) (by omega) (by omega) e
  omega

theorem chain_step (h : CI hi m who hs V L) (hhi : hi ≤ 900000) {k x : Nat} (hk : k < 5) (hx : hs[k]? = some x) {c : Cm} (hc : MC m V x c) (ho : c.out = 0) :
    ∃ (V' : Nat → Nat) (L' : Nat → List Nat) (x' : Nat), CI (hi + 1) (cstepF m c).1 (who.set k (cstepF m c).2) (hs.set k x') V' L' ∧
      V' 0 + V' 1 = V 0 + V 1 + (if (cstepF m c).2.out = 1 then 1 else 0) ∧ (if (cstepF m c).2.out = 1 then (if (cstepF m c).2.kind = 1 then x' = 0 else (cstepF m c).2.x = (x' : Int)) else x' = x) := by
  have htwo := h.two
  have hlen := htwo.len
  have hcnt : ∀ z, 1 ≤ z → (hs.set k x).count z + (L 0).count z + (L 1).count z = if z ≤ 8 then 1 else 0 := by rw [set_self_get hx]; exact h.cnt
  have same : ∀ (i : Nat) (c : Cm) (x : Nat), i ≠ k → who[i]? = some c → hs[i]? = some x → MC m V x c := fun i c x _ h1 h2 => h.mc i c x h1 h2
  have hs8 : ∀ (i y : Nat), hs[i]? = some y → y ≤ 8 := fun i y hy => by
    by_cases h0 : 1 ≤ y
    · exact (h.alone hy h0).1
    · omega
  cases hc with
  | idle _ hne => exact absurd ho hne
  | push0 j h0 y hj hp =>
    have hst : cstepF m ⟨1, 0, j, 1, h0, x, y, 0⟩ = (m, ⟨1, 1, j, 1, packF (V j) (fstN (L j)), x, y, 0⟩) := by simp [cstepF, cpushF, load_head htwo hj]
    rw [hst]
    exact ⟨V, L, x, h.turn hk htwo.up (.push1 j _ _ y hj hp ⟨Nat.le_refl _, fst_le htwo hj, fun _ => htwo.hd j hj⟩) same hcnt, by simp, by simp⟩
  | push1 j v n y hj hp hok =>
    obtain ⟨h8, hn0, hn1, hoth⟩ := h.alone hx hp
    have e1 : s64 ((1 : Int) + (x : Nat)) = ((1 + x : Nat) : Int) := by rw [s64_small (by omega) (by omega)]; rfl
    have e2 : nodeF (packF v n) = (n : Nat) := pack_node (by omega) (by have := hok.2.1; omega)
    have hst : cstepF m ⟨1, 1, j, 1, packF v n, x, y, 0⟩ = (m.set (1 + x) (n : Int), ⟨1, 2, j, 1, packF v n, x, y, 0⟩) := by
      simp only [cstepF, cpushF, e1, e2, store_nat (m := m) (1 + x) (n : Int) (by omega)]; simp
    rw [hst]
    refine ⟨V, L, x, h.turn hk (two_cell htwo.up h8 hp hn0 hn1 _) (.push2 j v n y hj hp ⟨hok.1, hok.2.1, fun e => by rw [getD_set _ _ _ (by omega), if_neg (by omega)]; exact hok.2.2 e⟩ (by rw [getD_set _ _ _ (by omega), if_pos rfl])) (fun i c z hi h1 h2 => mc_cell htwo h8 hp hn0 hn1 _ (fun e => hoth i hi (by rw [h2, e])) (h.mc i c z h1 h2)) hcnt, by simp, by simp⟩
  | push2 j v n y hj hp hok hn =>
    obtain ⟨h8, hn0, hn1, hoth⟩ := h.alone hx hp
    have hvj := htwo.vb j hj
    have hv := hok.1
    by_cases e : m.getD j 0 = packF v n
    · obtain ⟨rfl, rfl⟩ := head_is htwo hhi hj hok e
      have hsw := swap_nat_yes j (packF (V j) (fstN (L j))) (packF ((V j + 1 : Nat) : Int) (x : Nat)) (by omega) e
      have hst : cstepF m ⟨1, 2, j, 1, packF (V j) (fstN (L j)), x, y, 0⟩ = (m.set j (packF ((V j + 1 : Nat) : Int) (x : Nat)), ⟨1, 3, j, 1, packF (V j) (fstN (L j)), x, y, 1⟩) := by
        simp only [cstepF, cpushF, to_eq (show V j ≤ 1000000 by omega) (fst_le htwo hj), hsw.1, hsw.2]; simp
      rw [hst]
      have hch : Chained m 1 8 (fstN (x :: L j) : Nat) (x :: L j) := ⟨rfl, hp, h8, by rw [hn]; exact htwo.ch j hj⟩
      refine ⟨upN V j, upL L j (x :: L j), 0, h.turn hk (two_head htwo hj hch) (.idle _ (by simp)) (fun i c z hi h1 h2 => mc_head htwo (by omega) hj h8 (hs8 i z h2) (h.mc i c z h1 h2)) (fun z hz => ?_), by simp [up_sum j hj], by simp⟩
      have hc1 := h.cnt z hz
      have hc2 := count_set' hx 0 z
      have hc3 := upL_count (L := L) j hj (x :: L j) z
      rw [if_neg (show ¬ 0 = z by omega)] at hc2
      rw [List.count_cons] at hc3
      by_cases ez : x = z
      · subst ez; simp at hc2 hc3; omega
      · have b : (x == z) = false := by simp [ez]
        rw [if_neg ez] at hc2
        rw [b] at hc3; simp at hc3; omega
    · have hsw := swap_nat_no j (packF v n) (packF ((v + 1 : Nat) : Int) (x : Nat)) (by omega) e
      have hst : cstepF m ⟨1, 2, j, 1, packF v n, x, y, 0⟩ = (m, ⟨1, 0, j, 1, packF v n, x, y, 0⟩) := by
        simp only [cstepF, cpushF, to_eq (show v ≤ 1000000 by omega) hok.2.1, hsw.1, hsw.2]; simp
      rw [hst]
      exact ⟨V, L, x, h.turn hk htwo.up (.push0 j _ y hj hp) same hcnt, by simp, by simp⟩
  | pop0 j h0 y hj hp =>
    have hst : cstepF m ⟨2, 0, j, 1, h0, 0, y, 0⟩ = (m, ⟨2, 1, j, 1, packF (V j) (fstN (L j)), 0, y, if ((fstN (L j) : Nat) : Int) = 0 then 2 else 0⟩) := by
      simp only [cstepF, cpopF, load_head htwo hj, node_fst htwo hj]; simp
    rw [hst]
    by_cases e : ((fstN (L j) : Nat) : Int) = 0
    · rw [if_pos e]
      exact ⟨V, L, x, h.turn hk htwo.up (.idle _ (by simp)) same hcnt, by simp, by simp⟩
    · rw [if_neg e]
      exact ⟨V, L, x, h.turn hk htwo.up (.pop1 j _ _ y hj hp ⟨Nat.le_refl _, fst_le htwo hj, fun _ => htwo.hd j hj⟩ (by omega)) same hcnt, by simp, by simp⟩
  | pop1 j v n y hj hp hok h1 =>
    have hn8 := hok.2.1
    have e2 : nodeF (packF v n) = (n : Nat) := pack_node (by omega) (by omega)
    have e1 : s64 ((1 : Int) + (n : Nat)) = ((1 + n : Nat) : Int) := by rw [s64_small (by omega) (by omega)]; rfl
    have hst : cstepF m ⟨2, 1, j, 1, packF v n, 0, y, 0⟩ = (m, ⟨2, 2, j, 1, packF v n, 0, s64 (m.getD (1 + n) 0), 0⟩) := by
      simp only [cstepF, cpopF, e1, e2, load_nat (m := m) (1 + n) (by omega)]; simp
    rw [hst]
    refine ⟨V, L, x, h.turn hk htwo.up (.pop2 j v n _ hj hp hok h1 fun e => ?_) same hcnt, by simp, by simp⟩
    obtain ⟨rfl, rfl⟩ := head_is htwo hhi hj hok e
    have hch := htwo.ch j hj
    cases el : L j with
    | nil => rw [el] at h1; simp [fstN] at h1
    | cons a l =>
      rw [el] at hch
      have hp2 := chained_fst hch.2.2.2
      have hle : fstN l ≤ 8 := by
        have := chained_le hch.2.2.2
        unfold fstN
        cases l with
        | nil => simp
        | cons b r => exact (this b (by simp)).2
      have ef : fstN (a :: l) = a := rfl
      rw [ef, hp2, s64_small (by omega) (by omega)]
  | pop2 j v n y hj hp hok h1 hy =>
    subst hp
    have hvj := htwo.vb j hj
    have hv := hok.1
    by_cases e : m.getD j 0 = packF v n
    · have hy' := hy e
      obtain ⟨rfl, rfl⟩ := head_is htwo hhi hj hok e
      have hch := htwo.ch j hj
      obtain ⟨a, l, el⟩ : ∃ a l, L j = a :: l := by
        cases el : L j with
        | nil => rw [el] at h1; simp [fstN] at h1
        | cons a l => exact ⟨a, l, rfl⟩
      rw [el] at hch
      have hp2 := chained_fst hch.2.2.2
      have ha8 := hch.2.2.1
      have ha1 := hch.2.1
      have hle : fstN l ≤ 8 := by
        have := chained_le hch.2.2.2
        unfold fstN
        cases l with
        | nil => simp
        | cons b r => exact (this b (by simp)).2
      have ef : fstN (L j) = a := by rw [el]; rfl
      have hyl : y = (fstN l : Nat) := by rw [← hy', ef]; exact hp2
      subst hyl
      rw [ef] at e ⊢
      have hsw := swap_nat_yes j (packF (V j) (a : Nat)) (packF ((V j + 1 : Nat) : Int) (fstN l : Nat)) (by omega) e
      have hst : cstepF m ⟨2, 2, j, 1, packF (V j) (a : Nat), 0, (fstN l : Nat), 0⟩ = (m.set j (packF ((V j + 1 : Nat) : Int) (fstN l : Nat)), ⟨2, 3, j, 1, packF (V j) (a : Nat), (a : Nat), (fstN l : Nat), 1⟩) := by
        simp only [cstepF, cpopF, to_eq (show V j ≤ 1000000 by omega) ha8, hsw.1, hsw.2, pack_node (show (0 : Int) ≤ (a : Nat) by omega) (show ((a : Nat) : Int) < 4294967296 by omega)]; simp
      rw [hst]
      have hch2 : Chained m 1 8 (fstN l : Nat) l := by rw [← hp2]; exact hch.2.2.2
      refine ⟨upN V j, upL L j l, a, h.turn hk (two_head htwo hj hch2) (.idle _ (by simp)) (fun i c z hi h1 h2 => mc_head htwo (by omega) hj hle (hs8 i z h2) (h.mc i c z h1 h2)) (fun z hz => ?_), by simp [up_sum j hj], by simp⟩
      have hc1 := h.cnt z hz
      have hc2 := count_set' hx a z
      have hc3 := upL_count (L := L) j hj l z
      rw [el, List.count_cons] at hc3
      rw [if_neg (show ¬ 0 = z by omega)] at hc2
      by_cases ez : a = z
      · subst ez; simp at hc2 hc3; omega
      · have b : (a == z) = false := by simp [ez]
        rw [if_neg ez] at hc2
        rw [b] at hc3; simp at hc3; omega
    · have hsw := swap_nat_no j (packF v n) (packF ((v + 1 : Nat) : Int) y) (by omega) e
      have hst : cstepF m ⟨2, 2, j, 1, packF v n, 0, y, 0⟩ = (m, ⟨2, 0, j, 1, packF v n, 0, y, 0⟩) := by
        simp only [cstepF, cpopF, to_eq (show v ≤ 1000000 by omega) hok.2.1, hsw.1, hsw.2]; simp
      rw [hst]
      exact ⟨V, L, 0, h.turn hk htwo.up (.pop0 j _ y hj rfl) same hcnt, by simp, by simp⟩
end
end Go.Proofs.Ytpffknlbffnafaa
