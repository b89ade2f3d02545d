/- Layer pick: fairness, on lists. -/
import Derived.Test.YtbnnhalbgkaedaaRound
namespace Go.Proofs.Ytbnnhalbgkaedaa
open Go.RowKit

abbrev PP := Int × Int
theorem mem_kindsTo {k : Int} {n : Nat} {p : PP} : p ∈ kindsTo k n ↔ p.1 = k ∧ 1 ≤ p.2 ∧ p.2 ≤ n := by
  simp only [kindsTo, List.mem_map, List.mem_range]
  constructor
  · rintro ⟨i, hi, rfl⟩; exact ⟨rfl, by dsimp only; omega, by dsimp only; omega⟩
  · rintro ⟨h1, h2, h3⟩
    refine ⟨(p.2 - 1).toNat, by omega, ?_⟩
    obtain ⟨a, b⟩ := p
    simp only [Prod.mk.injEq] at *
    exact ⟨h1.symm, by omega⟩
theorem mem_roundL {n m : Int} (hn : n ≤ 16) (hm : m ≤ 16) {p : PP} : p ∈ roundL n m ↔ there p n m = true := by
  obtain ⟨a, b⟩ := p
  simp only [roundL, List.mem_cons, List.mem_append, mem_kindsTo, there, right, upto16, Prod.mk.injEq]
  simp only [Bool.and_eq_true, Bool.or_eq_true, beq_iff_eq, decide_eq_true_eq, bne_iff_ne, ne_eq]
  omega
theorem nodup_kindsTo (k : Int) (n : Nat) : (kindsTo k n).Nodup := by
  induction n with
  | zero => simp [kindsTo]
  | succ n ih =>
    rw [kindsTo_succ]
    refine List.nodup_append.2 ⟨ih, by simp, fun a ha b hb e => ?_⟩
    simp only [List.mem_singleton] at hb
    subst hb; subst e
    rw [mem_kindsTo] at ha
    dsimp only at ha
    omega
theorem nodup_roundL (n m : Int) : (roundL n m).Nodup := by
  unfold roundL
  refine List.nodup_cons.2 ⟨?_, List.nodup_append.2 ⟨nodup_kindsTo _ _, nodup_kindsTo _ _, ?_⟩⟩
  · simp [List.mem_append, mem_kindsTo]
  · intro a ha b hb e
    subst e
    rw [mem_kindsTo] at ha hb
    omega

/-- how many of L are among V -/
def sz (L V : List PP) : Nat := L.countP fun p => decide (p ∈ V)
theorem sz_cons (L : List PP) (hL : L.Nodup) (q : PP) (V : List PP) : sz L (q :: V) = sz L V + if q ∈ L ∧ q ∉ V then 1 else 0 := by
  induction L with
  | nil => simp [sz]
  | cons x L ih =>
    have hx := (List.nodup_cons.1 hL).1
    have ih := ih (List.nodup_cons.1 hL).2
    simp only [sz, List.countP_cons] at *
    rw [ih]
    by_cases e : x = q
    · subst e
      by_cases hv : x ∈ V
      · simp [hv]
      · simp [hv, hx]
    · have e' : ¬ q = x := fun h => e h.symm
      by_cases hv : x ∈ V
      · simp [hv, e']; omega
      · simp [hv, e, e']
theorem sz_snoc (L : List PP) (hL : L.Nodup) (q : PP) (V : List PP) : sz L (V ++ [q]) = sz L V + if q ∈ L ∧ q ∉ V then 1 else 0 := by
  rw [← sz_cons L hL]
  unfold sz
  congr 1
  funext p
  simp [or_comm]
theorem sz_le (L V : List PP) : sz L V ≤ L.length := List.countP_le_length
theorem sz_all (L V : List PP) : sz L V = L.length ↔ L.all (fun p => decide (p ∈ V)) = true := by
  unfold sz
  rw [List.countP_eq_length, List.all_eq_true]

/-- the last K of the first j -/
def win (l : List PP) (K j : Nat) : List PP := (l.take j).drop (j - K)
theorem win_zero (l : List PP) (K : Nat) : win l K 0 = [] := by simp [win]
theorem win_small (l : List PP) {K j : Nat} (h : j ≤ K) : win l K j = l.take j := by simp [win, Nat.sub_eq_zero_of_le h]
theorem win_up (l : List PP) {K j : Nat} (hj : j < l.length) (h : j < K) : win l K (j + 1) = win l K j ++ [l[j]] := by
  rw [win_small l (by omega), win_small l (by omega), List.take_succ_eq_append_getElem hj]
theorem win_slide (l : List PP) {K j : Nat} (hj : j < l.length) (h : K ≤ j) (hK : 0 < K) : win l K j ++ [l[j]] = l[j - K] :: win l K (j + 1) := by
  have e1 : win l K j ++ [l[j]] = (l.take (j + 1)).drop (j - K) := by
    rw [List.take_succ_eq_append_getElem hj, win, List.drop_append_of_le_length (by rw [List.length_take]; omega)]
  have e2 : win l K (j + 1) = (l.take (j + 1)).drop (j - K + 1) := by unfold win; congr 1; omega
  rw [e1, e2, ← List.getElem_cons_drop (i := j - K) (by rw [List.length_take]; omega)]
  congr 1
  rw [List.getElem_take]
theorem win_full (l : List PP) {K j : Nat} (h : K ≤ j) : win l K j = (l.drop (j - K)).take K := by
  rw [win, List.drop_take]; congr 1; omega

def winOK (n m : Int) (V : List PP) : Bool := (roundL n m).all fun p => decide (p ∈ V)
def fairF (l : List PP) (n m k : Int) : Bool :=
  if k < 1 then false else if (l.length : Int) < k then true else if 16 < n ∨ 16 < m then false
  else (List.range (l.length - k.toNat + 1)).all fun i => winOK n m ((l.drop i).take k.toNat)
end Go.Proofs.Ytbnnhalbgkaedaa
