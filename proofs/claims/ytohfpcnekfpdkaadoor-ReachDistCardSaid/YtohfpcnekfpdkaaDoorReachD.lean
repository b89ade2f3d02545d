/- Layer reach: plain facts for ReachDist: who is nearer by one. -/
import Derived.Test.YtohfpcnekfpdkaaDoorReachL
namespace Go.Proofs.YtohfpcnekfpdkaaDoor

theorem dst_rng (ls : Rws) (opn r : Nat) (x : Int) : -1 ≤ dstF ls opn r x ∧ dstF ls opn r x ≤ 64 := by
  unfold dstF
  rcases h : (List.range 65).find? fun k => hasF (levF ls opn r k) x with _ | k
  · simp only; omega
  · have := List.mem_range.1 (List.mem_of_find?_eq_some h)
    simp only; omega
theorem dst_le {ls : Rws} {opn r : Nat} {x : Int} {k : Nat} (h : hasF (levF ls opn r k) x = true) (hk : k ≤ 64) : 0 ≤ dstF ls opn r x ∧ dstF ls opn r x ≤ k ∧ hasF (levF ls opn r (dstF ls opn r x).toNat) x = true := by
  unfold dstF
  rcases hf : (List.range 65).find? fun k => hasF (levF ls opn r k) x with _ | j
  · exact absurd h (List.find?_eq_none.1 hf k (List.mem_range.2 (by omega)))
  · obtain ⟨hj, as, bs, hab, hbef⟩ := List.find?_eq_some_iff_append.1 hf
    have hl : as.length = j := by
      have h1 : (List.range 65)[as.length]? = some j := by rw [hab]; simp
      have h2 : as.length < 65 := by have := congrArg List.length hab; simp at this; omega
      rw [List.getElem?_range h2] at h1; simpa using h1
    refine ⟨by simp only; omega, ?_, hj⟩
    apply Decidable.byContradiction
    intro hne
    have hlt : k < as.length := by simp only at hne; omega
    have hmem : k ∈ as := by
      have h1 : (List.range 65)[k]? = some k := List.getElem?_range (by omega)
      rw [hab, List.getElem?_append_left hlt] at h1
      exact List.mem_of_getElem? h1
    have := hbef _ hmem
    rw [h] at this
    simp at this
theorem dst_has {ls : Rws} {opn r : Nat} {x : Int} (h : 0 ≤ dstF ls opn r x) : hasF (levF ls opn r (dstF ls opn r x).toNat) x = true := by
  have h1 : hasF (levF ls opn r 64) x = true := by
    unfold dstF at h
    rcases hf : (List.range 65).find? fun k => hasF (levF ls opn r k) x with _ | j
    · rw [hf] at h; simp only at h; omega
    · have h2 := List.mem_range.1 (List.mem_of_find?_eq_some hf)
      have h3 := List.find?_some hf
      exact lev_mono ls opn r x (k := j) h3 64 (by omega)
  exact (dst_le h1 (Nat.le_refl _)).2.2
theorem dst_in {ls : Rws} {r : Nat} {x : Int} : decide (0 ≤ dstF ls allN r x) = hasF (fromF ls r) x := by
  rw [Bool.eq_iff_iff, decide_eq_true_iff]
  exact ⟨fun h => lev_mono _ _ _ _ (dst_has h) 64 (by have := (dst_rng ls allN r x).2; omega), fun h => (dst_le h (Nat.le_refl _)).1⟩
theorem dst_root {ls : Rws} {r : Nat} {x : Int} (hx : inO ls x) : decide (dstF ls allN r x = 0) = hasF r x := by
  rw [Bool.eq_iff_iff, decide_eq_true_iff]
  constructor
  · intro h
    have := dst_has (ls := ls) (opn := allN) (r := r) (x := x) (by omega)
    rw [h] at this
    exact ((has_lev0 ..).1 this).1
  · intro h
    have := dst_le (k := 0) ((has_lev0 ls allN r x).2 ⟨h, hx⟩) (by omega)
    omega
theorem dst_next {ls : Rws} {r : Nat} {x y : Int} (hx : inO ls x) (hm : x ∈ rowF ls y) (hy : 0 ≤ dstF ls allN r y) : dstF ls allN r x ≤ dstF ls allN r y + 1 := by
  have h1 := dst_has hy
  have h2 : hasF (levF ls allN r ((dstF ls allN r y).toNat + 1)) x = true := (has_levS ..).2 (.inr ⟨hx, y, h1, has_all y (has_rng h1), hm⟩)
  by_cases h : dstF ls allN r y ≤ 63
  · have := (dst_le h2 (by omega)).2.1; omega
  · have := (dst_rng ls allN r x).2; omega
theorem dst_from {ls : Rws} {r : Nat} {x : Int} (h : 0 < dstF ls allN r x) : ∃ y, inO ls y ∧ x ∈ rowF ls y ∧ 0 ≤ dstF ls allN r y ∧ dstF ls allN r y = dstF ls allN r x - 1 := by
  have hr := dst_rng ls allN r x
  have h1 := dst_has (ls := ls) (opn := allN) (r := r) (x := x) (by omega)
  obtain ⟨k, hk⟩ : ∃ k, (dstF ls allN r x).toNat = k + 1 := ⟨(dstF ls allN r x).toNat - 1, by omega⟩
  rw [hk] at h1
  rcases (has_levS ..).1 h1 with h2 | ⟨hi, y, hy, _, hm⟩
  · have := (dst_le h2 (by omega)).2.1; omega
  · have h3 := dst_le hy (by omega)
    have h4 := dst_next hi hm h3.1
    exact ⟨y, lev_in _ _ _ _ _ hy, hm, h3.1, by omega⟩

/-- has somebody, of the first k objects, x in a slot, and a distance less by one? -/
def nrC (ls : Rws) (r : Nat) (x y : Int) : Bool := decide (0 ≤ dstF ls allN r y) && decide (dstF ls allN r y = dstF ls allN r x - 1)
def nrK (ls : Rws) (r : Nat) (x : Int) (k : Nat) : Bool :=
  decide (dstF ls allN r x ≤ 0) || (List.range k).any fun (j : Nat) => nrC ls r x ((j : Int) + 1) && (rowF ls ((j : Int) + 1)).any (· == x)
def nrJ (ls : Rws) (r : Nat) (x : Int) (k j : Nat) : Bool := nrK ls r x k || (nrC ls r x ((k : Int) + 1) && ((rowF ls ((k : Int) + 1)).take j).any (· == x))
section
variable {ls : Rws} {r : Nat} {x : Int} {k j : Nat}
theorem nrK_zero : nrK ls r x 0 = decide (dstF ls allN r x ≤ 0) := by simp [nrK]
theorem nrJ_zero : nrJ ls r x k 0 = nrK ls r x k := by simp [nrJ]
theorem nrK_succ : nrK ls r x (k + 1) = (nrK ls r x k || (nrC ls r x ((k : Int) + 1) && (rowF ls ((k : Int) + 1)).any (· == x))) := by
  unfold nrK
  rw [List.range_succ, List.any_append, Bool.or_assoc]; simp
theorem nrJ_end (h : (rowF ls ((k : Int) + 1)).length ≤ j) : nrJ ls r x k j = nrK ls r x (k + 1) := by
  rw [nrK_succ, nrJ, List.take_of_length_le h]
theorem nrJ_step {v : Int} (hv : (rowF ls ((k : Int) + 1))[j]? = some v) : nrJ ls r x k (j + 1) = (nrJ ls r x k j || ((v == x) && nrC ls r x ((k : Int) + 1))) := by
  unfold nrJ
  rw [List.take_add_one, hv, Bool.or_assoc]
  simp only [Option.toList_some, List.any_append, List.any_cons, List.any_nil, Bool.or_false]
  cases nrC ls r x ((k : Int) + 1) <;> simp
theorem nr_fin : nrK ls r x ls.length = true := by
  unfold nrK
  by_cases h : dstF ls allN r x ≤ 0
  · rw [decide_eq_true h]; rfl
  · rw [decide_eq_false h, Bool.false_or, List.any_eq_true]
    obtain ⟨y, hy, hm, h1, h2⟩ := dst_from (ls := ls) (r := r) (x := x) (by omega)
    obtain ⟨i, rfl⟩ : ∃ i : Nat, y = (i : Int) + 1 := ⟨(y - 1).toNat, by have := hy.1; omega⟩
    refine ⟨i, List.mem_range.2 (by have := hy.2.2; omega), ?_⟩
    unfold nrC
    rw [decide_eq_true h1, decide_eq_true h2, Bool.true_and, Bool.true_and, List.any_eq_true]
    exact ⟨x, hm, by simp⟩
end
theorem dist_at (ls : Rws) (r i : Nat) (h : i < ls.length) (h64 : i < 64) : (distF ls r)[i]? = some (dstF ls allN r ((i : Int) + 1)) := by
  unfold distF
  rw [List.getElem?_map, List.getElem?_range (by omega)]; rfl
theorem dist_len (ls : Rws) (r : Nat) (h : ls.length ≤ 64) : (distF ls r).length = ls.length := by simp [distF]; omega
end Go.Proofs.YtohfpcnekfpdkaaDoor
