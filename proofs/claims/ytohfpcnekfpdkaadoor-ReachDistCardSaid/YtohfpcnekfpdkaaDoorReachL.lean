/- Layer reach: plain facts for ReachLeast: what is reached is led to. -/
import Derived.Test.YtohfpcnekfpdkaaDoorReachQ
namespace Go.Proofs.YtohfpcnekfpdkaaDoor

/-- is something, of the first k objects, that is reached and is not x, with x in a slot? -/
def ledK (ls : Rws) (S : Nat) (x : Int) (b0 : Bool) (k : Nat) : Bool :=
  b0 || (List.range k).any fun (i : Nat) => decide ((i : Int) + 1 ≠ x) && (hasF S ((i : Int) + 1) && (rowF ls ((i : Int) + 1)).any (· == x))
def ledJ (ls : Rws) (S : Nat) (x : Int) (b0 : Bool) (k j : Nat) : Bool :=
  ledK ls S x b0 k || (decide ((k : Int) + 1 ≠ x) && (hasF S ((k : Int) + 1) && ((rowF ls ((k : Int) + 1)).take j).any (· == x)))
section
variable {ls : Rws} {S : Nat} {x : Int} {b0 : Bool} {k j : Nat}
theorem ledK_zero : ledK ls S x b0 0 = b0 := by simp [ledK]
theorem ledK_succ : ledK ls S x b0 (k + 1) = (ledK ls S x b0 k || (decide ((k : Int) + 1 ≠ x) && (hasF S ((k : Int) + 1) && (rowF ls ((k : Int) + 1)).any (· == x)))) := by
  unfold ledK
  rw [List.range_succ, List.any_append, Bool.or_assoc]; simp
theorem ledJ_zero : ledJ ls S x b0 k 0 = ledK ls S x b0 k := by simp [ledJ]
theorem ledJ_end (h : (rowF ls ((k : Int) + 1)).length ≤ j) : ledJ ls S x b0 k j = ledK ls S x b0 (k + 1) := by
  rw [ledK_succ, ledJ, List.take_of_length_le h]
theorem ledJ_same (h : (k : Int) + 1 = x) : ledJ ls S x b0 k j = ledK ls S x b0 (k + 1) := by
  rw [ledK_succ, ledJ]; simp [h]
theorem ledJ_step {v : Int} (hne : (k : Int) + 1 ≠ x) (hv : (rowF ls ((k : Int) + 1))[j]? = some v) : ledJ ls S x b0 k (j + 1) = (ledJ ls S x b0 k j || ((v == x) && hasF S ((k : Int) + 1))) := by
  unfold ledJ
  rw [List.take_add_one, hv, decide_eq_true hne, Bool.or_assoc]
  simp only [Option.toList_some, List.any_append, List.any_cons, List.any_nil, Bool.or_false, Bool.true_and]
  cases hasF S ((k : Int) + 1) <;> simp
end
/-- the last step to x does not begin at x -/
theorem lev_least {ls : Rws} {opn r : Nat} {x : Int} : ∀ k, hasF (levF ls opn r k) x = true → (hasF r x = true ∧ inO ls x) ∨ ∃ y j, y ≠ x ∧ hasF (levF ls opn r j) y = true ∧ hasF opn y = true ∧ x ∈ rowF ls y ∧ inO ls x
  | 0, h => .inl ((has_lev0 ..).1 h)
  | k + 1, h => by
    by_cases hk : hasF (levF ls opn r k) x = true
    · exact lev_least k hk
    · rcases (has_levS ..).1 h with h | ⟨hx, y, hy, ho, hm⟩
      · exact absurd h hk
      · exact .inr ⟨y, k, fun e => hk (e ▸ hy), hy, ho, hm, hx⟩
theorem least_iff {ls : Rws} {r : Nat} (hr : r < 18446744073709551616) {x : Int} (hx : 1 ≤ x ∧ x ≤ 64) :
    hasF (fromF ls r) x = ledK ls (fromF ls r) x (hasF r x && decide (x ≤ ls.length)) ls.length ∨ ¬ (x ≤ ls.length) ∧ hasF (fromF ls r) x = false := by
  by_cases hxl : x ≤ ls.length
  · left
    rw [Bool.eq_iff_iff]
    unfold ledK
    rw [Bool.or_eq_true, Bool.and_eq_true, decide_eq_true_iff, List.any_eq_true]
    constructor
    · intro h
      rcases lev_least 64 h with ⟨h1, h2⟩ | ⟨y, j, h1, h2, h3, h4, h5⟩
      · exact .inl ⟨h1, hxl⟩
      · right
        have hy := lev_in _ _ _ _ _ h2
        obtain ⟨i, rfl⟩ : ∃ i : Nat, y = (i : Int) + 1 := ⟨(y - 1).toNat, by have := hy.1; omega⟩
        refine ⟨i, List.mem_range.2 (by have := hy.2.2; omega), ?_⟩
        rw [Bool.and_eq_true, Bool.and_eq_true, decide_eq_true_iff, List.any_eq_true]
        exact ⟨h1, (from_has hr).2 (rch_of_lev j h2), x, h4, by simp⟩
    · rintro (⟨h1, h2⟩ | ⟨i, hi, h⟩)
      · exact (from_has hr).2 (.root h1 ⟨hx.1, hx.2, hxl⟩)
      · rw [Bool.and_eq_true, Bool.and_eq_true, decide_eq_true_iff, List.any_eq_true] at h
        obtain ⟨_, h2, z, hz, he⟩ := h
        rw [beq_iff_eq] at he; subst he
        have h3 := (from_has hr).1 h2
        exact (from_has hr).2 (.step h3 (has_all _ ⟨h3.inO.1, h3.inO.2.1⟩) hz ⟨hx.1, hx.2, hxl⟩)
  · right
    refine ⟨hxl, ?_⟩
    cases h : hasF (fromF ls r) x with
    | false => rfl
    | true => exact absurd ((from_has hr).1 h).inO.2.2 hxl
/-- of a right heap: no slot has what is no object -/
theorem led_fin {n : Int} {ls : Rws} (hR : rightF n ls = true) {r : Nat} (hr : r < 18446744073709551616) {x : Int} (hx : 1 ≤ x ∧ x ≤ 64) : hasF (fromF ls r) x = ledK ls (fromF ls r) x (hasF r x && decide (x ≤ ls.length)) ls.length := by
  rcases least_iff hr hx with h | ⟨h1, h2⟩
  · exact h
  · rw [h2]
    symm
    unfold ledK
    rw [decide_eq_false h1, Bool.and_false, Bool.false_or, List.any_eq_false]
    intro i hi h
    rw [List.mem_range] at hi
    rw [Bool.and_eq_true, Bool.and_eq_true, List.any_eq_true] at h
    obtain ⟨_, _, z, hz, he⟩ := h
    rw [beq_iff_eq] at he; subst he
    have h3 := (right_rows hR (rowF ls ((i : Int) + 1)) (by rw [rowF_mem (by omega)]; exact List.getElem_mem _)).2 _ hz
    omega
theorem right_get {n : Int} {ls : Rws} (hR : rightF n ls = true) {i j : Nat} (hi : i < ls.length) (hj : (j : Int) < n) :
    hasS ls ((i : Int) + 1) j = true ∧ (rowF ls ((i : Int) + 1))[j]? = some (getF ls ((i : Int) + 1) j) ∧ ((rowF ls ((i : Int) + 1)).length : Int) = n ∧ 0 ≤ getF ls ((i : Int) + 1) j ∧ getF ls ((i : Int) + 1) j ≤ ls.length := by
  have hm : rowF ls ((i : Int) + 1) ∈ ls := by rw [rowF_mem (by omega)]; exact List.getElem_mem _
  have h1 := right_rows hR _ hm
  have hs : hasS ls ((i : Int) + 1) j = true := hasS_iff.2 ⟨by omega, by omega, by omega, by omega⟩
  have hg : (rowF ls ((i : Int) + 1))[j]? = some (getF ls ((i : Int) + 1) j) := by
    unfold getF
    rw [if_pos hs, List.getD_eq_getElem?_getD, show ((j : Int)).toNat = j by omega, List.getElem?_eq_getElem (by omega)]; rfl
  exact ⟨hs, hg, h1.1, (h1.2 _ (List.mem_of_getElem? hg)).1, (h1.2 _ (List.mem_of_getElem? hg)).2⟩
theorem from_shut {n : Int} {ls : Rws} (hR : rightF n ls = true) {r : Nat} (hr : r < 18446744073709551616) {i j : Nat} (hi : i < ls.length) (hj : (j : Int) < n) (h : hasF (fromF ls r) ((i : Int) + 1) = true) (h0 : getF ls ((i : Int) + 1) j ≠ 0) :
    hasF (fromF ls r) (getF ls ((i : Int) + 1) j) = true := by
  obtain ⟨_, hg, _, g1, g2⟩ := right_get hR hi hj
  have h1 := (from_has hr).1 h
  have hl := (right_len hR).2.2
  exact (from_has hr).2 (.step h1 (has_all _ ⟨h1.inO.1, h1.inO.2.1⟩) (List.mem_of_getElem? hg) ⟨by omega, by omega, by omega⟩)
theorem from_own (ls : Rws) {r : Nat} (hr : r < 18446744073709551616) : underF (fromF ls r) (firstF ls.length) = true ∧ underF (r &&& firstF ls.length) (fromF ls r) = true := by
  constructor
  · refine (under_has (from_lt ls hr) (first_lt _)).2 fun x hx => ?_
    have := ((from_has hr).1 hx).inO
    rw [has_first, decide_eq_true_iff]; exact ⟨this.1, this.2.1, this.2.2⟩
  · refine (under_has (land_lt _ hr) (from_lt ls hr)).2 fun x hx => ?_
    rw [has_and, Bool.and_eq_true, has_first, decide_eq_true_iff] at hx
    exact (from_has hr).2 (.root hx.1 hx.2)
end Go.Proofs.YtohfpcnekfpdkaaDoor
