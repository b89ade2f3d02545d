/- Layer chain: the law's world, step by step. No program in this text. -/
import Derived.Test.YtpffknlbffnafaaChainS
import Derived.Test.YtpffknlbffnafaaBagQ
namespace Go.Proofs.Ytpffknlbffnafaa

structure Cw where
  m : List Int
  who : List Cm
  has : List Nat
  swap : Nat
def startCw : Cw := ⟨[1, 0, 2, 3, 4, 5, 6, 7, 8, 0], List.replicate 5 ⟨0, 0, 0, 0, 0, 0, 0, 1⟩, List.replicate 5 0, 0⟩
/-- who has come to an end begins again -/
def beginC (b : Nat) (w : Cw) : Cm :=
  if (w.who.getD (b % 5) (startC 0 0 0 0)).out ≠ 0 then startC (if 0 < w.has.getD (b % 5) 0 then 1 else 2) ((b / 5 % 2 : Nat) : Int) 1 (w.has.getD (b % 5) 0 : Nat) else w.who.getD (b % 5) (startC 0 0 0 0)
def cstepW (b : Nat) (w : Cw) : Cw :=
  let r := cstepF w.m (beginC b w)
  { m := r.1, who := w.who.set (b % 5) r.2, has := if r.2.out = 1 then w.has.set (b % 5) (if r.2.kind = 1 then 0 else r.2.x.toNat) else w.has, swap := w.swap + if r.2.out = 1 then 1 else 0 }
def CGood (hi : Nat) (w : Cw) : Prop := ∃ V L, CI hi w.m w.who w.has V L ∧ V 0 + V 1 = w.swap

theorem start_lays : layF (layF (List.replicate 10 0) 0 1 [1, 2, 3, 4, 5, 6, 7, 8]) 1 1 [] = startCw.m := by decide +kernel
theorem start_good : CGood 0 startCw := by
  refine ⟨fun _ => 0, fun j => if j = 0 then [1, 2, 3, 4, 5, 6, 7, 8] else [], ⟨⟨rfl, fun j hj => ?_, fun j hj => ?_, fun _ _ => Nat.le_refl _⟩, rfl, rfl, fun k c x hc hx => ?_, fun z hz => ?_⟩, rfl⟩
  · rcases (show j = 0 ∨ j = 1 by omega) with rfl | rfl <;> decide
  · rcases (show j = 0 ∨ j = 1 by omega) with rfl | rfl <;> simp [Chained, fstN, startCw]
  · have : c = ⟨0, 0, 0, 0, 0, 0, 0, 1⟩ := (List.mem_replicate.1 (List.mem_of_getElem? hc)).2
    subst this
    exact .idle _ (by decide)
  · have h0 : startCw.has.count z = 0 := List.count_eq_zero.2 fun h => by have := (List.mem_replicate.1 h).2; omega
    rw [h0]
    by_cases h8 : z ≤ 8
    · rw [if_pos h8]
      rcases (show z = 1 ∨ z = 2 ∨ z = 3 ∨ z = 4 ∨ z = 5 ∨ z = 6 ∨ z = 7 ∨ z = 8 by omega) with rfl | rfl | rfl | rfl | rfl | rfl | rfl | rfl <;> rfl
    · rw [if_neg h8]
      have : List.count z [1, 2, 3, 4, 5, 6, 7, 8] = 0 := List.count_eq_zero.2 fun h => by simp at h; omega
      simp [this]
theorem chain_good {hi : Nat} {w : Cw} (h : CGood hi w) (hhi : hi ≤ 900000) (b : Nat) : CGood (hi + 1) (cstepW b w) := by
  obtain ⟨V, L, hci, hsw⟩ := h
  have hk : b % 5 < 5 := Nat.mod_lt _ (by decide)
  have hwl := hci.wl
  have hhl := hci.hl
  have hxg : w.has[b % 5]? = some (w.has.getD (b % 5) 0) := by rw [List.getD_eq_getElem?_getD, List.getElem?_eq_getElem (by omega)]; rfl
  have hcg : w.who[b % 5]? = some (w.who.getD (b % 5) (startC 0 0 0 0)) := by rw [List.getD_eq_getElem?_getD, List.getElem?_eq_getElem (by omega)]; rfl
  have hmc := hci.mc _ _ _ hcg hxg
  have hb : MC w.m V (w.has.getD (b % 5) 0) (beginC b w) ∧ (beginC b w).out = 0 := by
    unfold beginC
    by_cases ho : (w.who.getD (b % 5) (startC 0 0 0 0)).out ≠ 0
    · rw [if_pos ho]
      by_cases hp : 0 < w.has.getD (b % 5) 0
      · rw [if_pos hp]
        exact ⟨.push0 (b / 5 % 2) 0 0 (Nat.mod_lt _ (by decide)) hp, rfl⟩
      · rw [if_neg hp]
        have h0 : w.has.getD (b % 5) 0 = 0 := by omega
        rw [h0]
        exact ⟨.pop0 (b / 5 % 2) 0 0 (Nat.mod_lt _ (by decide)) rfl, rfl⟩
    · rw [if_neg ho]
      exact ⟨hmc, by simpa using ho⟩
  obtain ⟨V', L', x', h1, h2, h3⟩ := chain_step hci hhi hk hxg hb.1 hb.2
  refine ⟨V', L', ?_, ?_⟩
  · unfold cstepW
    simp only
    have e : (if (cstepF w.m (beginC b w)).2.out = 1 then w.has.set (b % 5) (if (cstepF w.m (beginC b w)).2.kind = 1 then 0 else (cstepF w.m (beginC b w)).2.x.toNat) else w.has) = w.has.set (b % 5) x' := by
      by_cases ho : (cstepF w.m (beginC b w)).2.out = 1
      · rw [if_pos ho] at h3 ⊢
        by_cases hkd : (cstepF w.m (beginC b w)).2.kind = 1
        · rw [if_pos hkd] at h3 ⊢; rw [h3]
        · rw [if_neg hkd] at h3 ⊢; rw [h3]; rfl
      · rw [if_neg ho] at h3 ⊢
        rw [h3, set_self_get hxg]
    rw [e]; exact h1
  · unfold cstepW
    simp only
    rw [h2, hsw]
theorem chained_val {m : List Int} {nb N : Nat} : ∀ {p : Int} {l : List Nat}, Chained m nb N p l → ∀ x ∈ l, m.getD (nb + x) 0 ≤ N
  | _, [], _, _, hx => by simp at hx
  | _, y :: l, h, x, hx => by
    rcases List.mem_cons.1 hx with rfl | hx
    · have h3 := h.2.2.2
      cases l with
      | nil => have : m.getD (nb + x) 0 = 0 := h3; omega
      | cons z r => have h4 := h3.1; have := h3.2.2.1; omega
    · exact chained_val h.2.2.2 x hx
section
variable {hi : Nat} {m : List Int} {who : List Cm} {hs : List Nat} {V : Nat → Nat} {L : Nat → List Nat}
theorem CI.nodup (h : CI hi m who hs V L) {j : Nat} (hj : j < 2) : (L j).length ≤ 8 := by
  have hle := chained_le (h.two.ch j hj)
  have hc : ∀ z, (L j).count z ≤ 1 := fun z => by
    by_cases hz : 1 ≤ z
    · have := h.cnt z hz
      have h2 : (if z ≤ 8 then 1 else 0) ≤ 1 := by split <;> omega
      rcases (show j = 0 ∨ j = 1 by omega) with rfl | rfl <;> omega
    · have : (L j).count z = 0 := List.count_eq_zero.2 fun hm => by have := hle z hm; omega
      omega
  have hn : (L j).Nodup := by rw [List.nodup_iff_count]; exact hc
  have hn2 : ((L j).map fun (x : Nat) => (x : Int)).Nodup := List.pairwise_map.2 (hn.imp fun {a b} hab h => hab (by have h2 : (a : Int) = (b : Int) := h; omega))
  have hcast := nodup_len_le (ks := (L j).map fun (x : Nat) => (x : Int)) (b := [1, 2, 3, 4, 5, 6, 7, 8]) hn2 fun o ho => by
    obtain ⟨x, hx, rfl⟩ := List.mem_map.1 ho
    have := hle x hx
    rcases (show x = 1 ∨ x = 2 ∨ x = 3 ∨ x = 4 ∨ x = 5 ∨ x = 6 ∨ x = 7 ∨ x = 8 by omega) with rfl | rfl | rfl | rfl | rfl | rfl | rfl | rfl <;> simp
  simpa using hcast
theorem list_ok (h : CI hi m who hs V L) {j : Nat} (hj : j < 2) : listF m j 1 50 = (L j).map fun (x : Nat) => (x : Int) := by
  have hlen := h.two.len
  have hch := h.two.ch j hj
  unfold listF
  rw [load_head h.two hj, node_fst h.two hj]
  have := list_chained (nb := 1) (N := 8) (by omega) (by omega) (min (max (50 : Int) 0) 1000).toNat hch (fun x hx => by have := chained_val hch x hx; omega)
  rw [show ((1 : Nat) : Int) = 1 from rfl] at this
  rw [this, List.take_of_length_le (by have := h.nodup hj; simp; omega)]
end
/-- all nodes, wherever they are -/
def nodesF (w : Cw) : List Int := ((w.has.filter fun x => decide (0 < x)).map fun (x : Nat) => (x : Int)) ++ listF w.m 0 1 50 ++ listF w.m 1 1 50
theorem count_cast (l : List Nat) (z : Nat) : (l.map fun (x : Nat) => (x : Int)).count (z : Int) = l.count z := by
  induction l with
  | nil => rfl
  | cons x l ih =>
    rw [List.map_cons, List.count_cons, List.count_cons, ih]
    by_cases e : x = z
    · subst e; simp
    · have b1 : (x == z) = false := by simp [e]
      have b2 : ((x : Int) == (z : Int)) = false := by simp; omega
      rw [b1, b2]
theorem good_nodes {hi : Nat} {w : Cw} (h : CGood hi w) : sameB (nodesF w) [1, 2, 3, 4, 5, 6, 7, 8] = true := by
  obtain ⟨V, L, hci, -⟩ := h
  unfold nodesF
  have e0 := list_ok hci (show 0 < 2 by decide)
  have e1 := list_ok hci (show 1 < 2 by decide)
  rw [show ((0 : Nat) : Int) = 0 from rfl] at e0
  rw [show ((1 : Nat) : Int) = 1 from rfl] at e1
  rw [e0, e1]
  refine same_iff.2 fun o => ?_
  have hle0 := chained_le (hci.two.ch 0 (by decide))
  have hle1 := chained_le (hci.two.ch 1 (by decide))
  by_cases ho : 1 ≤ o
  · obtain ⟨z, rfl⟩ : ∃ z : Nat, o = z := ⟨o.toNat, by omega⟩
    have hz : 1 ≤ z := by omega
    have hc := hci.cnt z hz
    rw [List.count_append, List.count_append, count_cast, count_cast, count_cast, List.count_filter (by simp; omega)]
    rw [hc]
    by_cases h8 : z ≤ 8
    · rw [if_pos h8]
      rcases (show z = 1 ∨ z = 2 ∨ z = 3 ∨ z = 4 ∨ z = 5 ∨ z = 6 ∨ z = 7 ∨ z = 8 by omega) with rfl | rfl | rfl | rfl | rfl | rfl | rfl | rfl <;> rfl
    · rw [if_neg h8]
      symm
      exact List.count_eq_zero.2 fun h => by simp at h; omega
  · rw [List.count_eq_zero.2, List.count_eq_zero.2]
    · intro h; simp at h; omega
    · intro h
      simp only [List.mem_append, List.mem_map, List.mem_filter, decide_eq_true_eq] at h
      rcases h with (⟨x, ⟨_, hx⟩, rfl⟩ | ⟨x, hx, rfl⟩) | ⟨x, hx, rfl⟩
      · omega
      · have := hle0 x hx; omega
      · have := hle1 x hx; omega
theorem good_vers {hi : Nat} {w : Cw} (h : CGood hi w) (hhi : hi ≤ 900000) : w.m.length = 10 ∧ verF (w.m.getD 0 0) + verF (w.m.getD 1 0) = (w.swap : Int) := by
  obtain ⟨V, L, hci, hsw⟩ := h
  have h0 := hci.two.hd 0 (by decide)
  have h1 := hci.two.hd 1 (by decide)
  have v0 := hci.two.vb 0 (by decide)
  have v1 := hci.two.vb 1 (by decide)
  have f0 := fst_le hci.two (show 0 < 2 by decide)
  have f1 := fst_le hci.two (show 1 < 2 by decide)
  refine ⟨hci.two.len, ?_⟩
  rw [h0, h1, pack_ver (by omega) (by omega) (by omega) (by omega), pack_ver (by omega) (by omega) (by omega) (by omega)]
  omega
end Go.Proofs.Ytpffknlbffnafaa
