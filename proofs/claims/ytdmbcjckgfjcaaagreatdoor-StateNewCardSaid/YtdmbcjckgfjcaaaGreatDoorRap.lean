import Derived.Test.YtdmbcjckgfjcaaaGreatDoorRab
import Derived.Test.YtdmbcjckgfjcaaaGreatDoorRao
/- Layer chain: the law's world, step by step. No program in this text. -/
namespace Go.Proofs.YtdmbcjckgfjcaaaGreatDoor
theorem chained_val {m : List Int} {nb N : Nat} : ∀ {p : Int} {l : List Nat}, Chained m nb N p l → ∀ x ∈ l, m.getD (nb + x) 0 ≤ N
  | _, [], _, _, hx => by simp at hx
  | _, y :: l, h, x, hx => by
    rcases List.mem_cons.1 hx with rfl | hx
    · have h3 := h.2.2.2
      cases l with
      | nil => have : m.getD (nb + x) 0 = 0 := h3; omega
      | cons z r => have h4 := h3.1; have := h3.2.2.1; omega
    · exact chained_val h.2.2.2 x hx
end Go.Proofs.YtdmbcjckgfjcaaaGreatDoor
/- Layer chain: a machine that steps alone; a list that is laid. No program in this text. -/
namespace Go.Proofs.YtdmbcjckgfjcaaaGreatDoor
theorem lay_other {nb : Nat} : ∀ (l : List Nat) (m : List Int) (i : Nat), (∀ x ∈ l, nb + x < m.length ∧ x ≤ 1000000) → nb ≤ 1000000 → (∀ x ∈ l, nb + x ≠ i) → (layCells m nb (l.map fun (x : Nat) => (x : Int))).getD i 0 = m.getD i 0 ∧ (layCells m nb (l.map fun (x : Nat) => (x : Int))).length = m.length
  | [], _, _, _, _, _ => ⟨rfl, rfl⟩
  | [x], m, i, h, hnb, hi => by
    have hx := h x (by simp)
    have e : s64 ((nb : Int) + (x : Nat)) = ((nb + x : Nat) : Int) := by rw [s64_small (by omega) (by omega)]; rfl
    simp only [List.map_cons, List.map_nil, layCells, e, store_nat (m := m) (nb + x) _ hx.1]
    have := hi x (by simp)
    exact ⟨by rw [getD_set _ _ _ hx.1, if_neg (by omega)], by simp⟩
  | x :: y :: l, m, i, h, hnb, hi => by
    have hx := h x (by simp)
    have e : s64 ((nb : Int) + (x : Nat)) = ((nb + x : Nat) : Int) := by rw [s64_small (by omega) (by omega)]; rfl
    simp only [List.map_cons, layCells, e, store_nat (m := m) (nb + x) _ hx.1]
    have hne := hi x (by simp)
    have ih := lay_other (y :: l) (m.set (nb + x) (w64 (y : Nat))) i (fun z hz => by rw [List.length_set]; exact h z (by simp at hz ⊢; exact .inr hz)) hnb (fun z hz => hi z (by simp at hz ⊢; exact .inr hz))
    rw [List.map_cons, getD_set _ _ _ hx.1, if_neg (by omega), List.length_set] at ih
    exact ih
theorem lay_chained {nb N : Nat} (hnb : nb ≤ 1000000) (hN : N ≤ 1000000) : ∀ (l : List Nat) (m : List Int), l.Nodup → (∀ x ∈ l, 1 ≤ x ∧ x ≤ N) → nb + N < m.length → Chained (layCells m nb (l.map fun (x : Nat) => (x : Int))) nb N (fstN l : Nat) l
  | [], _, _, _, _ => rfl
  | [x], m, _, h, hl => by
    have hx := h x (by simp)
    have e : s64 ((nb : Int) + (x : Nat)) = ((nb + x : Nat) : Int) := by rw [s64_small (by omega) (by omega)]; rfl
    refine ⟨rfl, hx.1, hx.2, ?_⟩
    simp only [List.map_cons, List.map_nil, layCells, e, store_nat (m := m) (nb + x) _ (show nb + x < m.length by omega)]
    rw [getD_set _ _ _ (by omega), if_pos rfl]
    rfl
  | x :: y :: l, m, hn, h, hl => by
    have hx := h x (by simp)
    have hy := h y (by simp)
    obtain ⟨hn1, hn2⟩ := List.nodup_cons.1 hn
    have e : s64 ((nb : Int) + (x : Nat)) = ((nb + x : Nat) : Int) := by rw [s64_small (by omega) (by omega)]; rfl
    have hw : w64 (y : Nat) = (y : Nat) := w64_small (by omega) (by omega)
    have hh : layCells m nb ((x :: y :: l).map fun (x : Nat) => (x : Int)) = layCells (m.set (nb + x) (y : Nat)) nb ((y :: l).map fun (x : Nat) => (x : Int)) := by
      simp only [List.map_cons, layCells, e, store_nat (m := m) (nb + x) _ (show nb + x < m.length by omega), hw]
    have ih := lay_chained hnb hN (y :: l) (m.set (nb + x) (y : Nat)) hn2 (fun z hz => h z (by simp at hz ⊢; exact .inr hz)) (by rw [List.length_set]; exact hl)
    have ho := lay_other (nb := nb) (y :: l) (m.set (nb + x) (y : Nat)) (nb + x) (fun z hz => by
      have := h z (by simp at hz ⊢; exact .inr hz)
      rw [List.length_set]; omega) hnb (fun z hz e => by
      have e5 : z = x := by omega
      subst e5
      exact hn1 hz)
    rw [hh]
    refine ⟨rfl, hx.1, hx.2, ?_⟩
    rw [ho.1, getD_set _ _ _ (by omega), if_pos rfl]
    exact ih
end Go.Proofs.YtdmbcjckgfjcaaaGreatDoor
/- Layer state: the cells at the start, and what lies in the bins, as plain functions. No program in this text. -/
namespace Go.Proofs.YtdmbcjckgfjcaaaGreatDoor
/-- as lay_list, the head anywhere up to nb (place nb is no node's) -/
theorem lay_two {hd nb N : Nat} (hnb : nb ≤ 400000) (hN : N ≤ 400000) (hh : hd ≤ nb) (l : List Nat) (m : List Int) (hn : l.Nodup) (h : ∀ x ∈ l, 1 ≤ x ∧ x ≤ N) (hl : nb + N < m.length) :
    Chained (layFCh m hd nb (l.map fun (x : Nat) => (x : Int))) nb N (fstN l : Nat) l ∧ (layFCh m hd nb (l.map fun (x : Nat) => (x : Int))).getD hd 0 = packF 0 (fstN l : Nat) ∧ (layFCh m hd nb (l.map fun (x : Nat) => (x : Int))).length = m.length
      ∧ ∀ i, i ≠ hd → (∀ x ∈ l, nb + x ≠ i) → (layFCh m hd nb (l.map fun (x : Nat) => (x : Int))).getD i 0 = m.getD i 0 := by
  have hb : ∀ z ∈ l, nb + z < m.length ∧ z ≤ 1000000 := fun z hz => by have := h z hz; omega
  have hlen := (lay_other (nb := nb) l m hd hb (by omega) (fun z hz => by have := h z hz; omega)).2
  have hc := lay_chained (by omega) (by omega) l m hn h hl
  have e0 : (l.map fun (x : Nat) => (x : Int)).headD 0 = (fstN l : Nat) := by cases l <;> rfl
  have hoth := fun i hi => (lay_other (nb := nb) l m i hb (by omega) hi).1
  unfold layFCh
  rw [e0]
  generalize layCells m nb (l.map fun (x : Nat) => (x : Int)) = M at *
  rw [store_nat (m := M) hd _ (by omega)]
  refine ⟨chained_set (by omega) hc fun z hz => by have := h z hz; omega, by rw [getD_set _ _ _ (by omega), if_pos rfl], by simp; omega, fun i hi hx => ?_⟩
  rw [getD_set _ _ _ (by omega), if_neg hi]
  exact hoth i hx
/-- cells that are alike where it passes -/
theorem chained_same {m m' : List Int} {nb N : Nat} : ∀ {p : Int} {l : List Nat}, Chained m nb N p l → (∀ x ∈ l, m'.getD (nb + x) 0 = m.getD (nb + x) 0) → Chained m' nb N p l
  | _, [], h, _ => h
  | _, y :: l, h, hs => by
    refine ⟨h.1, h.2.1, h.2.2.1, ?_⟩
    rw [hs y (by simp)]
    exact chained_same h.2.2.2 fun x hx => hs x (by simp [hx])
theorem list_is {m : List Int} {hd nb N most : Nat} {l : List Nat} (hs : nb + N ≤ 800000) (hh : hd ≤ nb) (hl : nb + N < m.length) (hc : Chained m nb N (fstN l : Nat) l) (hg : m.getD hd 0 = packF 0 (fstN l : Nat)) (hm : most ≤ 1000) :
    listFCh m hd nb most = (l.take most).map (fun (x : Nat) => (x : Int)) := by
  have hf : fstN l ≤ N := by
    unfold fstN
    cases l with
    | nil => simp
    | cons b r => exact (chained_le hc b (by simp)).2
  unfold listFCh
  rw [load_nat hd (by omega), hg, pack_node (by omega) (by omega)]
  rw [list_chained (nb := nb) (N := N) hl (by omega) (min (max (most : Int) 0) 1000).toNat hc (fun x hx => by have := chained_val hc x hx; omega), show (min (max (most : Int) 0) 1000).toNat = most by omega]
/-- so many empty deques -/
def deqsF (cap : Nat) : Nat → List Int
  | 0 => []
  | w + 1 => deqsF cap w ++ cellsF cap
/-- where all deques end -/
def topM (W cap : Nat) : Nat := W * (cap + 2)
/-- the cells before the lists are laid -/
def bareM (W cap nb : Nat) : List Int := deqsF cap W ++ List.replicate (2 + nb) 0
/-- the cells at the start -/
def newM (W cap nb : Nat) (fu em : List Nat) : List Int :=
  layFCh (layFCh (bareM W cap nb) (topM W cap : Nat) (topM W cap + 1 : Nat) (fu.map fun (x : Nat) => (x : Int))) (topM W cap + 1 : Nat) (topM W cap + 1 : Nat) (em.map fun (x : Nat) => (x : Int))
theorem cells_len {cap : Nat} (h1 : 1 ≤ cap) (h2 : cap ≤ 64) : (cellsF (cap : Int)).length = cap + 2 := by
  unfold cellsF
  simp only [List.length_cons, List.length_replicate]; omega
theorem deqs_len {cap : Nat} (h1 : 1 ≤ cap) (h2 : cap ≤ 64) : ∀ W, (deqsF cap W).length = topM W cap
  | 0 => by unfold topM; simp [deqsF]
  | W + 1 => by
    unfold deqsF
    rw [List.length_append, deqs_len h1 h2 W, cells_len h1 h2]
    unfold topM
    rw [Nat.succ_mul]
theorem bare_len {W cap nb : Nat} (h1 : 1 ≤ cap) (h2 : cap ≤ 64) : (bareM W cap nb).length = topM W cap + 2 + nb := by
  unfold bareM; rw [List.length_append, deqs_len h1 h2, List.length_replicate]; omega
/-- the cells of a deque, read -/
theorem deqs_get {cap : Nat} (h1 : 1 ≤ cap) (h2 : cap ≤ 64) {k : Nat} (hk : k < cap + 2) : ∀ (W : Nat) {w : Nat}, w < W → (deqsF cap W).getD (topM w cap + k) 0 = if k < 2 then 1 else 0
  | 0, _, h => by omega
  | W + 1, w, h => by
    unfold deqsF
    rcases Nat.lt_or_ge w W with hw | hw
    · have hle : topM w cap + (cap + 2) ≤ topM W cap := by unfold topM; rw [← Nat.succ_mul]; exact Nat.mul_le_mul_right _ hw
      rw [List.getD_eq_getElem?_getD, List.getElem?_append_left (by rw [deqs_len h1 h2]; omega), ← List.getD_eq_getElem?_getD]
      exact deqs_get h1 h2 hk W hw
    · obtain rfl : w = W := by omega
      rw [List.getD_eq_getElem?_getD, List.getElem?_append_right (by rw [deqs_len h1 h2]; omega), deqs_len h1 h2, Nat.add_sub_cancel_left]
      unfold cellsF
      match k, hk with
      | 0, _ => rfl
      | 1, _ => rfl
      | k + 2, hk =>
        rw [List.getElem?_cons_succ, List.getElem?_cons_succ, if_neg (by omega), List.getElem?_replicate, if_pos (by omega)]; rfl
section
variable {W cap nb : Nat} {fu em : List Nat}
/-- what New's cells are asked for: two lists of bins that have no bin in common -/
structure NewM (W cap nb : Nat) (fu em : List Nat) : Prop where
  w : W ≤ 16
  c1 : 1 ≤ cap
  c2 : cap ≤ 64
  bs : nb ≤ 1000
  fn : fu.Nodup
  en : em.Nodup
  fr : ∀ x ∈ fu, 1 ≤ x ∧ x ≤ nb
  er : ∀ x ∈ em, 1 ≤ x ∧ x ≤ nb
  ne : ∀ x ∈ fu, x ∉ em
theorem top_le (h : NewM W cap nb fu em) : topM W cap ≤ 1056 := by
  have h1 : W * (cap + 2) ≤ 16 * (64 + 2) := Nat.mul_le_mul h.w (by have := h.c2; omega)
  unfold topM; omega
theorem newM_all (h : NewM W cap nb fu em) :
    (newM W cap nb fu em).length = topM W cap + 2 + nb ∧ listFCh (newM W cap nb fu em) (topM W cap : Nat) (topM W cap + 1 : Nat) 100 = (fu.take 100).map (fun (x : Nat) => (x : Int)) ∧ listFCh (newM W cap nb fu em) (topM W cap + 1 : Nat) (topM W cap + 1 : Nat) 100 = (em.take 100).map (fun (x : Nat) => (x : Int))
      ∧ ∀ i, i < topM W cap → (newM W cap nb fu em).getD i 0 = (deqsF cap W).getD i 0 := by
  have hT := top_le h
  have hB := bare_len (W := W) (nb := nb) h.c1 h.c2
  have hnb := h.bs
  obtain ⟨a1, a2, a3, a4⟩ := lay_two (hd := topM W cap) (nb := topM W cap + 1) (N := nb) (by omega) (by omega) (by omega) fu (bareM W cap nb) h.fn h.fr (by omega)
  unfold newM
  generalize layFCh (bareM W cap nb) (topM W cap : Nat) (topM W cap + 1 : Nat) (fu.map fun (x : Nat) => (x : Int)) = M1 at *
  obtain ⟨b1, b2, b3, b4⟩ := lay_two (hd := topM W cap + 1) (nb := topM W cap + 1) (N := nb) (by omega) (by omega) (by omega) em M1 h.en h.er (by omega)
  generalize layFCh M1 (topM W cap + 1 : Nat) (topM W cap + 1 : Nat) (em.map fun (x : Nat) => (x : Int)) = M2 at *
  have c1 : Chained M2 (topM W cap + 1) nb (fstN fu : Nat) fu := chained_same a1 fun x hx => b4 _ (by have := h.fr x hx; omega) fun y hy e => by
    have e2 : y = x := by omega
    exact h.ne x hx (e2 ▸ hy)
  have c2 : M2.getD (topM W cap) 0 = packF 0 (fstN fu : Nat) := (b4 _ (by omega) fun y hy => by omega).trans a2
  refine ⟨by omega, list_is (most := 100) (by omega) (by omega) (by omega) c1 c2 (by decide), list_is (most := 100) (by omega) (by omega) (by omega) b1 b2 (by decide), fun i hi => ?_⟩
  rw [b4 i (by omega) fun y hy => by omega, a4 i (by omega) fun y hy => by omega]
  unfold bareM
  rw [List.getD_eq_getElem?_getD, List.getElem?_append_left (by rw [deqs_len h.c1 h.c2]; omega), ← List.getD_eq_getElem?_getD]
/-- each deque is empty -/
theorem newM_deque (h : NewM W cap nb fu em) {w : Nat} (hw : w < W) {o : Mc} (ho : extF o = false) : itemsF (newM W cap nb fu em) (topM w cap : Nat) cap o = [] := by
  have hT := top_le h
  obtain ⟨h0, -, -, h3⟩ := newM_all h
  have hle : topM w cap + (cap + 2) ≤ topM W cap := by unfold topM; rw [← Nat.succ_mul]; exact Nat.mul_le_mul_right _ hw
  have g0 := h3 (topM w cap) (by omega)
  have g1 := h3 (topM w cap + 1) (by omega)
  rw [show topM w cap = topM w cap + 0 from rfl, deqs_get h.c1 h.c2 (by omega) W hw, if_pos (by omega)] at g0
  rw [deqs_get h.c1 h.c2 (by omega) W hw, if_pos (by omega)] at g1
  unfold itemsF
  have e : s64 ((topM w cap : Nat) + 1) = ((topM w cap + 1 : Nat) : Int) := by rw [s64_small (by omega) (by omega)]; rfl
  have l0 : loadF (newM W cap nb fu em) (topM w cap : Nat) = 1 := by rw [load_nat _ (by omega)]; exact g0
  have l1 : endF (newM W cap nb fu em) (topM w cap : Nat) o = 1 := by
    unfold endF
    rw [ho, e, load_nat _ (by omega), g1]; decide
  simp only [l0, l1]
  exact if_pos (.inl (by decide))
end
/-- pieces of k, n of them -/
def chunk {α : Type} (k : Nat) : Nat → List α → List (List α)
  | 0, _ => []
  | n + 1, g => g.take k :: chunk k n (g.drop k)
section
variable {α : Type} {k : Nat}
theorem chunk_len : ∀ (n : Nat) (g : List α), (chunk k n g).length = n
  | 0, _ => rfl
  | n + 1, g => by rw [chunk, List.length_cons, chunk_len n]
theorem chunk_flat : ∀ (n : Nat) (g : List α), g.length ≤ k * n → (chunk k n g).flatten = g
  | 0, g, h => by
    have : g = [] := List.eq_nil_of_length_eq_zero (by simpa using h)
    subst this; rfl
  | n + 1, g, h => by
    rw [chunk, List.flatten_cons, chunk_flat n, List.take_append_drop]
    rw [List.length_drop, Nat.mul_succ] at *; omega
theorem chunk_get : ∀ (n : Nat) (g : List α) (i : Nat), i < n → (chunk k n g)[i]? = some ((g.drop (k * i)).take k)
  | 0, _, _, h => by omega
  | n + 1, g, 0, _ => by rw [chunk, List.getElem?_cons_zero, Nat.mul_zero, List.drop_zero]
  | n + 1, g, i + 1, h => by
    rw [chunk, List.getElem?_cons_succ, chunk_get n _ i (by omega), List.drop_drop, Nat.mul_succ, Nat.add_comm k]
theorem chunk_snoc (n : Nat) (g : List α) : chunk k (n + 1) g = chunk k n g ++ [(g.drop (k * n)).take k] := by
  apply List.ext_getElem?
  intro i
  rcases Nat.lt_trichotomy i n with h | h | h
  · rw [chunk_get _ _ _ (by omega), List.getElem?_append_left (by rw [chunk_len]; exact h), chunk_get _ _ _ h]
  · subst h
    rw [chunk_get _ _ _ (by omega), List.getElem?_append_right (by rw [chunk_len]; omega), chunk_len]; simp
  · rw [List.getElem?_eq_none (by rw [chunk_len]; omega), List.getElem?_eq_none (by rw [List.length_append, chunk_len]; simp; omega)]
/-- how many of them hold something -/
def fullN (k n : Nat) : Nat := (n + (k - 1)) / k
theorem full_iff (hk : 0 < k) (n i : Nat) : i < fullN k n ↔ k * i < n := by
  unfold fullN
  rw [Nat.lt_iff_add_one_le, Nat.le_div_iff_mul_le hk, Nat.add_mul, Nat.one_mul, Nat.mul_comm i k]
  omega
theorem full_le (hk : 0 < k) {n b : Nat} (h : n ≤ b) : fullN k n ≤ b := by
  rcases Nat.lt_or_ge b (fullN k n) with hb | hb
  · have h1 := (full_iff hk n b).1 hb
    have h2 : 1 * b ≤ k * b := Nat.mul_le_mul_right b hk
    omega
  · exact hb
theorem chunk_full (hk : 0 < k) {n : Nat} {g : List α} {i : Nat} (hi : i < n) (hf : i < fullN k g.length) : ∃ p, (chunk k n g)[i]? = some p ∧ p ≠ [] ∧ p.length ≤ k := by
  refine ⟨_, chunk_get n g i hi, ?_, by rw [List.length_take]; omega⟩
  have h := (full_iff hk _ _).1 hf
  intro e
  have e2 := congrArg List.length e
  rw [List.length_take, List.length_drop, List.length_nil] at e2
  omega
theorem chunk_empty (hk : 0 < k) {n : Nat} {g : List α} {i : Nat} (hi : i < n) (hf : fullN k g.length ≤ i) : (chunk k n g)[i]? = some [] := by
  rw [chunk_get n g i hi]
  have h : ¬ k * i < g.length := fun h => by have := (full_iff hk _ _).2 h; omega
  rw [List.drop_eq_nil_of_le (by omega), List.take_nil]
end
/-- the bins from a + 1 on, n of them -/
def binsN (a n : Nat) : List Nat := List.range' (a + 1) n
theorem bins_new {W cap nb f : Nat} (hw : W ≤ 16) (c1 : 1 ≤ cap) (c2 : cap ≤ 64) (hn : nb ≤ 1000) (hf : f ≤ nb) : NewM W cap nb (binsN 0 f) (binsN f (nb - f)) where
  w := hw
  c1 := c1
  c2 := c2
  bs := hn
  fn := List.nodup_range'
  en := List.nodup_range'
  fr := fun x hx => by unfold binsN at hx; rw [List.mem_range'_1] at hx; omega
  er := fun x hx => by unfold binsN at hx; rw [List.mem_range'_1] at hx; omega
  ne := fun x hx h => by unfold binsN at hx h; rw [List.mem_range'_1] at hx h; omega
theorem binsN_snoc (a n : Nat) : binsN a (n + 1) = binsN a n ++ [a + n + 1] := by
  unfold binsN
  rw [List.range'_concat, Nat.one_mul]
  congr 2; omega
end Go.Proofs.YtdmbcjckgfjcaaaGreatDoor
