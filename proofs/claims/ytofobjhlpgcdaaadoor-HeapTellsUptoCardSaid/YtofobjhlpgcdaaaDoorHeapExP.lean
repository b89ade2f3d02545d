/- Layer heap: the chapter's examples, as numbers. -/
import Derived.Test.YtofobjhlpgcdaaaDoorHeapQ
namespace Go.Proofs.YtofobjhlpgcdaaaDoor

def slotsD : Nat → List Int → B8
  | _, [] => []
  | s, v :: r => aheadF s :: dg v.toNat ++ slotsD (s + 1) r
theorem slots_D : ∀ (r : List Int) (s : Nat), (r.all fun v => decide (v.toNat < 100)) = true → slotsT s r = slotsD s r
  | [], _, _ => rfl
  | v :: r, s, h => by
    rw [List.all_cons, Bool.and_eq_true, decide_eq_true_iff] at h
    unfold slotsT slotsD
    rw [slots_D r (s + 1) h.2, show dec v = dg v.toNat from dec_dg h.1]
theorem objs_D : ∀ ls : Rws, (ls.all fun r => r.all fun v => decide (v.toNat < 100)) = true → ls.flatMap (slotsT 0) = ls.flatMap (slotsD 0)
  | [], _ => rfl
  | r :: ls, h => by
    rw [List.all_cons, Bool.and_eq_true] at h
    rw [List.flatMap_cons, List.flatMap_cons, slots_D r 0 h.1, objs_D ls h.2]
/-- a text of right numbers, right or not -/
theorem heapF_rows {n : Int} {ls : Rws} (h0 : 1 ≤ n ∧ n ≤ 4) (hl : ls.length < 65) (hr : ∀ r ∈ ls, r.length = n.toNat ∧ ∀ v ∈ r, 0 ≤ v ∧ v ≤ (64 : Int)) :
    heapF (dec n ++ ls.flatMap (slotsT 0)) = if rightF n ls then some (n, ls) else none := by
  unfold heapF
  rw [numF_dec (by omega) (by omega) (objs_noD ls)]
  simp only
  rw [if_pos (right_of (by simp; omega) (by simp)), objsF_text n.toNat (by omega) ls 65 hl hr]
def exLS : Rws := [[2, 0], [1, 2]]
def exLP : Rws := [[2, 0], [1, 1]]
def exLN : Rws := [[2, 0], [1, 2], [0, 0]]
theorem lit_of {n : Int} {ls : Rws} {t : B8} (h : n.toNat < 100) (ha : (ls.all fun r => r.all fun v => decide (v.toNat < 100)) = true) (ht : dg n.toNat ++ ls.flatMap (slotsD 0) = t) : dec n ++ ls.flatMap (slotsT 0) = t := by
  rw [objs_D ls ha, show dec n = dg n.toNat from dec_dg h, ht]
theorem exP1 : heapF [50, 124, 50, 44, 48, 124, 49, 44, 50] = some (2, exLS) := by
  rw [← lit_of (n := 2) (ls := exLS) (t := [50, 124, 50, 44, 48, 124, 49, 44, 50]) (by decide) (by decide) (by decide), heapF_rows (by decide) (by decide) (by decide), if_pos (by decide)]
theorem exP2 : heapF [50, 124, 50, 44, 48, 124, 49, 44, 51] = none := by
  rw [← lit_of (n := 2) (ls := [[2, 0], [1, 3]]) (t := [50, 124, 50, 44, 48, 124, 49, 44, 51]) (by decide) (by decide) (by decide), heapF_rows (by decide) (by decide) (by decide), if_neg (by decide)]
theorem exT {n : Int} {ls : Rws} {t : B8} (hr : rightF n ls = true) (h : n.toNat < 100) (ha : (ls.all fun r => r.all fun v => decide (v.toNat < 100)) = true) (ht : dg n.toNat ++ ls.flatMap (slotsD 0) = t) : textF n ls = t := by
  unfold textF; rw [if_pos hr]; exact lit_of h ha ht
theorem exTP : textF 2 exLP = [50, 124, 50, 44, 48, 124, 49, 44, 49] := exT (by decide) (by decide) (by decide) (by decide)
theorem exTS : textF 2 exLS = [50, 124, 50, 44, 48, 124, 49, 44, 50] := exT (by decide) (by decide) (by decide) (by decide)
theorem exTN : textF 2 exLN = [50, 124, 50, 44, 48, 124, 49, 44, 50, 124, 48, 44, 48] := exT (by decide) (by decide) (by decide) (by decide)
theorem exT0 : textF 0 [] = [63] := by unfold textF; rw [if_neg (by decide)]
theorem exG1 : getF exLS 1 0 = 2 := by decide
theorem exG2 : hasS exLS 1 0 = true := by decide
theorem exG3 : getF exLS 3 0 = 0 := by decide
theorem exG4 : hasS exLS 3 0 = false := by decide
theorem exU1 : putOk exLS 2 1 1 = true := by decide
theorem exU2 : putF exLS 2 1 1 = exLP := by decide
theorem exU3 : putOk exLS 2 1 3 = false := by decide
theorem exU4 : putF exLS 2 1 3 = exLS := by decide
theorem exA1 : allocE 2 exLS 3 = 0 := by decide
theorem exA2 : allocN 2 exLS 3 = 3 := by decide
theorem exA3 : allocF 2 exLS 3 = exLN := by decide
theorem exA4 : allocE 2 exLS 2 = 4 := by decide
theorem exA5 : allocN 2 exLS 2 = 0 := by decide
theorem exA6 : allocF 2 exLS 2 = exLS := by decide
theorem exA7 : allocE 0 [] 2 = 1 := by decide
theorem exA8 : allocN 0 [] 2 = 0 := by decide
theorem exA9 : allocF 0 [] 2 = [] := by decide
theorem exR : rightF 2 exLS = true := by decide
theorem exS1 : sameF 2 exLS 2 exLS = true := by decide
theorem exS2 : sameF 2 exLS 2 exLP = false := by decide
theorem exF : Fit exLS := by unfold Fit; decide
theorem exF0 : Fit [] := by unfold Fit; decide
end Go.Proofs.YtofobjhlpgcdaaaDoor
