/- Layer chain: whatever the schedule: each node is in one list, or somebody has it. No program in this text. -/
import Derived.Test.YtpffknlbffnafaaChainP
namespace Go.Proofs.Ytpffknlbffnafaa

/-- what was read of a head: no younger than it; and it is the head still, if the version is -/
def HOk (m : List Int) (V : Nat → Nat) (j v n : Nat) : Prop := v ≤ V j ∧ n ≤ 8 ∧ (v = V j → m.getD j 0 = packF v n)
/-- how a machine stands that has node hk, or none -/
inductive MC (m : List Int) (V : Nat → Nat) (hk : Nat) : Cm → Prop
  | idle (c : Cm) (h : c.out ≠ 0) : MC m V hk c
  | push0 (j : Nat) (h0 y : Int) (hj : j < 2) (hp : 1 ≤ hk) : MC m V hk ⟨1, 0, j, 1, h0, hk, y, 0⟩
  | push1 (j v n : Nat) (y : Int) (hj : j < 2) (hp : 1 ≤ hk) (h : HOk m V j v n) : MC m V hk ⟨1, 1, j, 1, packF v n, hk, y, 0⟩
  | push2 (j v n : Nat) (y : Int) (hj : j < 2) (hp : 1 ≤ hk) (h : HOk m V j v n) (hn : m.getD (1 + hk) 0 = n) : MC m V hk ⟨1, 2, j, 1, packF v n, hk, y, 0⟩
  | pop0 (j : Nat) (h0 y : Int) (hj : j < 2) (hp : hk = 0) : MC m V hk ⟨2, 0, j, 1, h0, 0, y, 0⟩
  | pop1 (j v n : Nat) (y : Int) (hj : j < 2) (hp : hk = 0) (h : HOk m V j v n) (h1 : 1 ≤ n) : MC m V hk ⟨2, 1, j, 1, packF v n, 0, y, 0⟩
  | pop2 (j v n : Nat) (y : Int) (hj : j < 2) (hp : hk = 0) (h : HOk m V j v n) (h1 : 1 ≤ n) (hy : m.getD j 0 = packF v n → m.getD (1 + n) 0 = y) : MC m V hk ⟨2, 2, j, 1, packF v n, 0, y, 0⟩
/-- two lists that share their cells -/
structure Two (hi : Nat) (m : List Int) (V : Nat → Nat) (L : Nat → List Nat) : Prop where
  len : m.length = 10
  hd : ∀ j, j < 2 → m.getD j 0 = packF (V j) (fstN (L j))
  ch : ∀ j, j < 2 → Chained m 1 8 (fstN (L j) : Nat) (L j)
  vb : ∀ j, j < 2 → V j ≤ hi
structure CI (hi : Nat) (m : List Int) (who : List Cm) (hs : List Nat) (V : Nat → Nat) (L : Nat → List Nat) : Prop where
  two : Two hi m V L
  wl : who.length = 5
  hl : hs.length = 5
  mc : ∀ (k : Nat) (c : Cm) (x : Nat), who[k]? = some c → hs[k]? = some x → MC m V x c
  cnt : ∀ z, 1 ≤ z → hs.count z + (L 0).count z + (L 1).count z = if z ≤ 8 then 1 else 0

section
variable {hi : Nat} {m : List Int} {who : List Cm} {hs : List Nat} {V : Nat → Nat} {L : Nat → List Nat}
theorem fst_le (h : Two hi m V L) {j : Nat} (hj : j < 2) : fstN (L j) ≤ 8 := by
  have hc := chained_le (h.ch j hj)
  unfold fstN
  cases e : L j with
  | nil => simp
  | cons x l => rw [e] at hc; exact (hc x (by simp)).2
theorem count_two {l : List Nat} {i j x : Nat} (hij : i ≠ j) (hx : 1 ≤ x) (h1 : l[i]? = some x) (h2 : l[j]? = some x) : 2 ≤ l.count x := by
  obtain ⟨hi, e1⟩ := List.getElem?_eq_some_iff.1 h1
  have hc := List.count_set (a := 0) (b := x) hi
  have h3 : (l.set i 0)[j]? = some x := by rw [List.getElem?_set_ne hij]; exact h2
  have h4 := List.count_pos_iff.2 (List.mem_of_getElem? h3)
  have e0 : (0 == x) = false := by simp; omega
  have e2 : (l[i] == x) = true := by simp [e1]
  rw [e0, e2] at hc
  simp at hc
  omega
/-- who has a node has it alone -/
theorem CI.alone (h : CI hi m who hs V L) {k x : Nat} (hx : hs[k]? = some x) (h1 : 1 ≤ x) : x ≤ 8 ∧ x ∉ L 0 ∧ x ∉ L 1 ∧ ∀ k', k' ≠ k → hs[k']? ≠ some x := by
  have hc := h.cnt x h1
  have hp := List.count_pos_iff.2 (List.mem_of_getElem? hx)
  have h8 : x ≤ 8 := by
    apply Decidable.byContradiction
    intro hn; rw [if_neg hn] at hc; omega
  rw [if_pos h8] at hc
  refine ⟨h8, fun h => ?_, fun h => ?_, fun k' hk h => ?_⟩
  · have := List.count_pos_iff.2 h; omega
  · have := List.count_pos_iff.2 h; omega
  · have := count_two hk h1 h hx; omega
theorem notin {j x : Nat} (hj : j < 2) (h0 : x ∉ L 0) (h1 : x ∉ L 1) : x ∉ L j := by
  rcases (show j = 0 ∨ j = 1 by omega) with rfl | rfl
  · exact h0
  · exact h1
/-- a node's own cell is written, which is in no list -/
theorem two_cell (h : Two hi m V L) {x : Nat} (hx : x ≤ 8) (h1 : 1 ≤ x) (h0 : x ∉ L 0) (h1' : x ∉ L 1) (v : Int) : Two hi (m.set (1 + x) v) V L where
  len := by rw [List.length_set]; exact h.len
  hd := fun j hj => by rw [getD_set _ _ _ (by have := h.len; omega), if_neg (by omega)]; exact h.hd j hj
  ch := fun j hj => chained_set (by have := h.len; omega) (h.ch j hj) fun y hy => by
    intro e
    have : y = x := by omega
    subst this
    rcases (show j = 0 ∨ j = 1 by omega) with rfl | rfl
    · exact h0 hy
    · exact h1' hy
  vb := h.vb
theorem mc_cell (h : Two hi m V L) {x hk : Nat} (hx : x ≤ 8) (h1 : 1 ≤ x) (h0 : x ∉ L 0) (h1' : x ∉ L 1) (v : Int) (hne : hk ≠ x) {c : Cm} (hc : MC m V hk c) : MC (m.set (1 + x) v) V hk c := by
  have hlen := h.len
  have hh : ∀ j v' n, j < 2 → HOk m V j v' n → HOk (m.set (1 + x) v) V j v' n := fun j v' n hj ⟨a, b, c⟩ => ⟨a, b, fun e => by rw [getD_set _ _ _ (by omega), if_neg (by omega)]; exact c e⟩
  cases hc with
  | idle _ h => exact .idle _ h
  | push0 j h0 y hj hp => exact .push0 j h0 y hj hp
  | push1 j v' n y hj hp hok => exact .push1 j v' n y hj hp (hh j v' n hj hok)
  | push2 j v' n y hj hp hok hn => exact .push2 j v' n y hj hp (hh j v' n hj hok) (by rw [getD_set _ _ _ (by omega), if_neg (by omega)]; exact hn)
  | pop0 j h0 y hj hp => exact .pop0 j h0 y hj hp
  | pop1 j v' n y hj hp hok h1n => exact .pop1 j v' n y hj hp (hh j v' n hj hok) h1n
  | pop2 j v' n y hj hp hok h1n hy =>
    refine .pop2 j v' n y hj hp (hh j v' n hj hok) h1n fun e => ?_
    rw [getD_set _ _ _ (by omega), if_neg (by omega)] at e
    have hd := h.hd j hj
    rw [hd] at e
    have hfl := fst_le h hj
    have hn8 := hok.2.1
    have hnode : (fstN (L j) : Int) = (n : Int) := by
      have h1 := congrArg nodeF e
      rwa [pack_node (by omega) (by omega), pack_node (by omega) (by omega)] at h1
    have hmem : n ∈ L j := by
      have : fstN (L j) = n := by omega
      cases e2 : L j with
      | nil => rw [e2] at this; simp [fstN] at this; omega
      | cons z l => rw [e2] at this; simp [fstN] at this; simp [this]
    have hnx : n ≠ x := fun e3 => by
      subst e3
      rcases (show j = 0 ∨ j = 1 by omega) with rfl | rfl
      · exact h0 hmem
      · exact h1' hmem
    rw [getD_set _ _ _ (by omega), if_neg (by omega)]
    exact hy (by rw [hd]; exact e)
def upN (V : Nat → Nat) (j : Nat) : Nat → Nat := fun i => if i = j then V i + 1 else V i
def upL (L : Nat → List Nat) (j : Nat) (l : List Nat) : Nat → List Nat := fun i => if i = j then l else L i
/-- a head is swapped -/
theorem mc_head (h : Two hi m V L) (hhi : hi ≤ 1000000) {j0 : Nat} (hj0 : j0 < 2) {a : Nat} (ha : a ≤ 8) {hk : Nat} {c : Cm} (hk8 : hk ≤ 8) (hc : MC m V hk c) :
    MC (m.set j0 (packF ((V j0 + 1 : Nat) : Int) a)) (upN V j0) hk c := by
  have hlen := h.len
  have hh : ∀ j v n, j < 2 → HOk m V j v n → HOk (m.set j0 (packF ((V j0 + 1 : Nat) : Int) a)) (upN V j0) j v n := fun j v n hj ⟨h1, h2, h3⟩ => by
    by_cases e : j = j0
    · subst e
      refine ⟨?_, h2, ?_⟩
      · unfold upN; rw [if_pos rfl]; omega
      · unfold upN; rw [if_pos rfl]; intro e; omega
    · refine ⟨?_, h2, ?_⟩
      · unfold upN; rw [if_neg e]; exact h1
      · unfold upN; rw [if_neg e]
        intro ev
        rw [getD_set _ _ _ (by omega), if_neg e]; exact h3 ev
  cases hc with
  | idle _ h => exact .idle _ h
  | push0 j h0 y hj hp => exact .push0 j h0 y hj hp
  | push1 j v' n y hj hp hok => exact .push1 j v' n y hj hp (hh j v' n hj hok)
  | push2 j v' n y hj hp hok hn => exact .push2 j v' n y hj hp (hh j v' n hj hok) (by rw [getD_set _ _ _ (by omega), if_neg (by omega)]; exact hn)
  | pop0 j h0 y hj hp => exact .pop0 j h0 y hj hp
  | pop1 j v' n y hj hp hok h1n => exact .pop1 j v' n y hj hp (hh j v' n hj hok) h1n
  | pop2 j v' n y hj hp hok h1n hy =>
    refine .pop2 j v' n y hj hp (hh j v' n hj hok) h1n fun e => ?_
    by_cases ej : j = j0
    · exfalso
      subst ej
      rw [getD_set _ _ _ (by omega), if_pos rfl] at e
      have hv := h.vb j hj
      have hle := hok.1
      have hn8 := hok.2.1
      have h2 := congrArg verF e
      rw [pack_ver (by omega) (by omega) (by omega) (by omega), pack_ver (by omega) (by omega) (by omega) (by omega)] at h2
      omega
    · rw [getD_set _ _ _ (by omega), if_neg ej] at e
      rw [getD_set _ _ _ (by omega), if_neg (by omega)]
      exact hy e
theorem two_head (h : Two hi m V L) {j0 : Nat} (hj0 : j0 < 2) {l : List Nat} (hl : Chained m 1 8 (fstN l : Nat) l) : Two (hi + 1) (m.set j0 (packF ((V j0 + 1 : Nat) : Int) (fstN l))) (upN V j0) (upL L j0 l) where
  len := by rw [List.length_set]; exact h.len
  hd := fun j hj => by
    have hlen := h.len
    rw [getD_set _ _ _ (by omega)]
    by_cases e : j = j0
    · subst e; rw [if_pos rfl]; unfold upN upL; rw [if_pos rfl, if_pos rfl]
    · rw [if_neg e]; unfold upN upL; rw [if_neg e, if_neg e]; exact h.hd j hj
  ch := fun j hj => by
    have hlen := h.len
    unfold upL
    by_cases e : j = j0
    · rw [if_pos e]; exact chained_set (by omega) hl fun y hy => by have := chained_le hl y hy; omega
    · rw [if_neg e]; exact chained_set (by omega) (h.ch j hj) fun y hy => by have := chained_le (h.ch j hj) y hy; omega
  vb := fun j hj => by
    have := h.vb j hj
    unfold upN; split <;> omega
theorem Two.up (h : Two hi m V L) : Two (hi + 1) m V L := { h with vb := fun j hj => Nat.le_succ_of_le (h.vb j hj) }
end
end Go.Proofs.Ytpffknlbffnafaa
