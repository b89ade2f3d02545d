/- Layer heap: two puts after one another, on lists; a boxed heap's cells may be stored. -/
import Derived.Test.YtnbbjkikplfpoaaDoorHeapPutP
import Derived.Test.YtnbbjkikplfpoaaDoorHeapUse
namespace Go.Proofs.YtnbbjkikplfpoaaDoor
open Go.RowKit Go.Shelf Go.Proofs

theorem ok_put (ls : Rws) (o s v p q x : Int) : putOk (putF ls o s v) p q x = putOk ls p q x := by
  unfold putOk mayF; rw [has_put, putF_len]
theorem put_put (ls : Rws) (o s v x : Int) : putF (putF ls o s v) o s x = if putOk ls o s x then putF ls o s x else putF ls o s v := by
  by_cases hx : putOk ls o s x = true
  · rw [if_pos hx, put_set (by rw [ok_put]; exact hx), put_set hx]
    by_cases hv : putOk ls o s v = true
    · rw [put_set hv]
      have h1 := (put_ok hv).1
      show (setF ls o s v).set _ ((rowF (setF ls o s v) o).set _ _) = _
      rw [row_at1 h1]
      unfold setF
      rw [List.set_set, List.set_set]
    · rw [put_not (by simpa using hv)]
  · rw [if_neg hx, put_not (by rw [ok_put]; simpa using hx)]
theorem put_comm (ls : Rws) {o s v p q x : Int} (hne : ¬ (o = p ∧ s = q)) : putF (putF ls o s v) p q x = putF (putF ls p q x) o s v := by
  by_cases hx : putOk ls p q x = true
  · by_cases hv : putOk ls o s v = true
    · rw [put_set (by rw [ok_put]; exact hx), put_set hv, put_set (by rw [ok_put]; exact hv), put_set hx]
      have h1 := (put_ok hv).1
      have h2 := (put_ok hx).1
      have k1 := hasS_iff.1 h1
      have k2 := hasS_iff.1 h2
      show (setF ls o s v).set _ ((rowF (setF ls o s v) p).set _ _) = (setF ls p q x).set _ ((rowF (setF ls p q x) o).set _ _)
      by_cases e : o = p
      · subst e
        rw [row_at1 h1, row_at1 h2]
        unfold setF
        rw [List.set_set, List.set_set, List.set_comm _ _ (show q.toNat ≠ s.toNat from fun h => hne ⟨rfl, by omega⟩)]
      · rw [row_other h1 k2.1 (fun h => e h.symm), row_other h2 k1.1 e]
        unfold setF
        rw [List.set_comm _ _ (show (o - 1).toNat ≠ (p - 1).toNat by omega)]
    · rw [put_not (ls := ls) (o := o) (by simpa using hv), put_not (ls := putF ls p q x) (by rw [ok_put]; simpa using hv)]
  · rw [put_not (ls := ls) (o := p) (by simpa using hx), put_not (ls := putF ls o s v) (by rw [ok_put]; simpa using hx)]
theorem put_thrice (ls : Rws) (o s v x : Int) : putF (putF (putF ls o s v) o s x) o s v = putF (putF ls o s x) o s v := by
  rw [put_put (putF ls o s v), put_put ls o s x v, put_put ls o s v x, ok_put]
  by_cases h : putOk ls o s v = true
  · rw [if_pos h, if_pos h, put_put ls o s v v, if_pos h]
  · have h' : putF ls o s v = ls := put_not (by simpa using h)
    rw [if_neg h, if_neg h]
    split
    · rfl
    · rename_i hx
      rw [h', put_not (by simpa using hx)]
theorem put_again (ls : Rws) (o s v : Int) : putF (putF ls o s v) o s v = putF ls o s v := by
  rw [put_put]; split <;> rfl
theorem box_soft {w w1 : World} {x y : Value} {t : TypeId} (h : w.alloc (.cells #[x, y] t) = w1) (j : Nat) : w1.frozen? ⟨w.heap.size, j, none⟩ = false := by
  rw [← h]; exact frozen_of_row _ _ j #[x, y] _ (heap_alloc_new w _)
end Go.Proofs.YtnbbjkikplfpoaaDoor
