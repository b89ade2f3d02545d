/- Layer chain: a step, lists, as plain functions on lists of numbers. No program in this text. -/
import Derived.Test.YtpffknlbffnafaaDequeP
namespace Go.Proofs.Ytpffknlbffnafaa

/-- a machine -/
structure Cm where
  kind : Int
  pc : Int
  head : Int
  next : Int
  h : Int
  x : Int
  y : Int
  out : Int
def packF (v n : Int) : Int := v % 4294967296 * 4294967296 + n % 4294967296
def nodeF (h : Int) : Int := h % 4294967296
def verF (h : Int) : Int := h / 4294967296
def startC (kind head next x : Int) : Cm := ⟨kind, 0, head, next, 0, x, 0, 0⟩
def toC (c : Cm) (n : Int) : Int := packF (verF c.h + 1) n
def cpushF (m : List Int) (c : Cm) : List Int × Cm :=
  if c.pc = 0 then (m, { c with h := loadF m c.head, pc := 1 })
  else if c.pc = 1 then (storeF m (s64 (c.next + c.x)) (nodeF c.h), { c with pc := 2 })
  else if c.pc = 2 then (swapF m c.head c.h (toC c c.x), { c with out := if swapsF m c.head c.h (toC c c.x) then 1 else c.out, pc := if swapsF m c.head c.h (toC c c.x) then 3 else 0 })
  else (m, c)
def cpopF (m : List Int) (c : Cm) : List Int × Cm :=
  if c.pc = 0 then (m, { c with h := loadF m c.head, out := if nodeF (loadF m c.head) = 0 then 2 else c.out, pc := 1 })
  else if c.pc = 1 then (m, { c with y := s64 (loadF m (s64 (c.next + nodeF c.h))), pc := 2 })
  else if c.pc = 2 then (swapF m c.head c.h (toC c c.y), { c with x := if swapsF m c.head c.h (toC c c.y) then nodeF c.h else c.x, out := if swapsF m c.head c.h (toC c c.y) then 1 else c.out, pc := if swapsF m c.head c.h (toC c c.y) then 3 else 0 })
  else (m, c)
def cstepF (m : List Int) (c : Cm) : List Int × Cm :=
  if c.out ≠ 0 then (m, c) else if c.kind = 1 then cpushF m c else if c.kind = 2 then cpopF m c else (m, c)
/-- one behind another -/
def layCells (m : List Int) (next : Int) : List Int → List Int
  | [] => m
  | [x] => storeF m (s64 (next + x)) 0
  | x :: y :: l => layCells (storeF m (s64 (next + x)) (w64 y)) next (y :: l)
def layF (m : List Int) (head next : Int) (l : List Int) : List Int := storeF (layCells m next l) head (packF 0 (l.headD 0))
/-- at most so many, from x on -/
def listFrom (m : List Int) (next : Int) : Nat → Int → List Int
  | 0, _ => []
  | k + 1, x => if x = 0 then [] else x :: listFrom m next k (s64 (loadF m (s64 (next + x))))
def listF (m : List Int) (head next most : Int) : List Int := listFrom m next (min (max most 0) 1000).toNat (nodeF (loadF m head))

theorem pack_node {v n : Int} (h0 : 0 ≤ n) (h1 : n < 4294967296) : nodeF (packF v n) = n := by unfold nodeF packF; omega
theorem pack_ver {v n : Int} (h0 : 0 ≤ n) (h1 : n < 4294967296) (h2 : 0 ≤ v) (h3 : v < 4294967296) : verF (packF v n) = v := by unfold verF packF; omega
theorem pack_inj {v n v' n' : Int} (h0 : 0 ≤ n ∧ n < 4294967296) (h1 : 0 ≤ n' ∧ n' < 4294967296) (h2 : 0 ≤ v ∧ v < 4294967296) (h3 : 0 ≤ v' ∧ v' < 4294967296) (h : packF v n = packF v' n') : v = v' ∧ n = n' := by
  unfold packF at h; omega
theorem pack_rng (v n : Int) : 0 ≤ packF v n ∧ packF v n ≤ 18446744073709551615 := by unfold packF; omega

/-! ### cells by their places -/
section
variable {m : List Int}
theorem load_nat (i : Nat) (h : i < m.length) : loadF m (i : Int) = m.getD i 0 := by
  unfold loadF
  rw [(at_on (by simp only; omega)).1, was_get (by simp only; omega), List.getD_eq_getElem?_getD, List.getElem?_eq_getElem h]
  simp
theorem store_nat (i : Nat) (v : Int) (h : i < m.length) : storeF m (i : Int) v = m.set i v := by
  unfold storeF
  rw [(at_on (by simp only; omega)).2.2]
  simp [newF]
theorem swap_nat_yes (i : Nat) (x y : Int) (h : i < m.length) (hx : m.getD i 0 = x) : swapF m (i : Int) x y = m.set i y ∧ swapsF m (i : Int) x y = true := by
  have hon := at_on (m := m) (o := ⟨3, (i : Int), x, y⟩) (by simp only; omega)
  have hw : wasF m ⟨3, (i : Int), x, y⟩ = x := by
    rw [was_get (by simp only; omega), ← hx, List.getD_eq_getElem?_getD, List.getElem?_eq_getElem h]; simp
  unfold swapF swapsF
  rw [hon.2.2, hon.2.1, hw]
  simp [newF]
theorem swap_nat_no (i : Nat) (x y : Int) (h : i < m.length) (hx : m.getD i 0 ≠ x) : swapF m (i : Int) x y = m ∧ swapsF m (i : Int) x y = false := by
  have hon := at_on (m := m) (o := ⟨3, (i : Int), x, y⟩) (by simp only; omega)
  have hw : wasF m ⟨3, (i : Int), x, y⟩ = m.getD i 0 := by
    rw [was_get (by simp only; omega), List.getD_eq_getElem?_getD, List.getElem?_eq_getElem h]; simp
  unfold swapF swapsF
  have hg : m.getD i 0 = m[i] := by rw [List.getD_eq_getElem?_getD, List.getElem?_eq_getElem h]; rfl
  rw [hon.2.2, hon.2.1, hw]
  rw [hg] at hx ⊢
  have hn : newF m[i] ⟨3, (i : Int), x, y⟩ = m[i] := by unfold newF; simp [hx]
  rw [hn]
  simp [hx]
theorem getD_set (i j : Nat) (v : Int) (h : i < m.length) : (m.set i v).getD j 0 = if j = i then v else m.getD j 0 := by
  rw [List.getD_eq_getElem?_getD, List.getD_eq_getElem?_getD]
  by_cases e : j = i
  · subst e; rw [List.getElem?_set_self h, if_pos rfl]; rfl
  · rw [List.getElem?_set_ne (fun h => e h.symm), if_neg e]
end
/-- from x on, through the cells behind nb: just these nodes, none above N -/
def Chained (m : List Int) (nb N : Nat) : Int → List Nat → Prop
  | p, [] => p = 0
  | p, x :: l => p = (x : Int) ∧ 1 ≤ x ∧ x ≤ N ∧ Chained m nb N (m.getD (nb + x) 0) l
/-- the first of it -/
def fstN (l : List Nat) : Nat := l.headD 0
section
variable {m : List Int} {nb N : Nat}
theorem chained_fst : ∀ {p : Int} {l : List Nat}, Chained m nb N p l → p = (fstN l : Nat)
  | _, [], h => h
  | _, _ :: _, h => h.1
theorem chained_le : ∀ {p : Int} {l : List Nat}, Chained m nb N p l → ∀ x ∈ l, 1 ≤ x ∧ x ≤ N
  | _, [], _, _, hx => by simp at hx
  | _, y :: l, h, x, hx => by
    rcases List.mem_cons.1 hx with rfl | hx
    · exact ⟨h.2.1, h.2.2.1⟩
    · exact chained_le h.2.2.2 x hx
/-- what is written elsewhere turns no list -/
theorem chained_set {i : Nat} {v : Int} (hi : i < m.length) : ∀ {p : Int} {l : List Nat}, Chained m nb N p l → (∀ x ∈ l, nb + x ≠ i) → Chained (m.set i v) nb N p l
  | _, [], h, _ => h
  | _, y :: l, h, hne => by
    refine ⟨h.1, h.2.1, h.2.2.1, ?_⟩
    rw [getD_set _ _ _ hi, if_neg (hne y (by simp))]
    exact chained_set hi h.2.2.2 fun x hx => hne x (by simp [hx])
theorem list_chained (hlen : nb + N < m.length) (hs : nb + N ≤ 1000000) : ∀ (k : Nat) {p : Int} {l : List Nat}, Chained m nb N p l → (∀ x ∈ l, (m.getD (nb + x) 0) ≤ 1000000) → listFrom m nb k p = (l.take k).map fun (x : Nat) => (x : Int)
  | 0, _, _, _, _ => by simp [listFrom]
  | k + 1, _, [], h, _ => by
    have h : _ = (0 : Int) := h
    simp [listFrom, h]
  | k + 1, _, x :: l, h, hv => by
    obtain ⟨rfl, h1, h2, h3⟩ := h
    have hp := chained_fst h3
    have e : s64 ((nb : Int) + (x : Nat)) = ((nb + x : Nat) : Int) := by rw [s64_small (by omega) (by omega)]; rfl
    have hle := hv x (by simp)
    rw [listFrom, if_neg (by omega), e, load_nat _ (by omega), s64_small (by omega) (by omega), list_chained hlen hs k h3 fun y hy => hv y (by simp [hy])]
    simp
end
end Go.Proofs.Ytpffknlbffnafaa
