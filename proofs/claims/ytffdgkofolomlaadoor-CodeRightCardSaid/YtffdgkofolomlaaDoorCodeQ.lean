/- Layer code: plain facts: the sides of an op's text; where a text is cut. No program in this text. -/
import Derived.Test.YtffdgkofolomlaaDoorCodeP
import Derived.Lib.IndexLaws
import Derived.Lib.Bytealg
namespace Go.Proofs.YtffdgkofolomlaaDoor
open Go.Lib (indexByte)

/-- where the first such byte is -/
theorem idx_none {c : UInt8} {l : List UInt8} (h : indexByte l c < 0) : c ∉ l := by
  have := Go.Lib.indexByte_ge l c
  have h1 := Go.Lib.indexByte_none (show indexByte l c = -1 by omega)
  intro hm
  obtain ⟨k, hk⟩ := List.mem_iff_getElem?.1 hm
  exact h1 k hk
theorem idx_some {c : UInt8} {l : List UInt8} {i : Nat} (h : indexByte l c = (i : Int)) : i < l.length ∧ l = l.take i ++ c :: l.drop (i + 1) ∧ c ∉ l.take i := by
  obtain ⟨h1, h2⟩ := Go.Lib.indexByte_some h
  obtain ⟨hi, he⟩ := List.getElem?_eq_some_iff.1 h1
  refine ⟨hi, ?_, fun hm => ?_⟩
  · rw [← he]; simp
  · obtain ⟨k, hk⟩ := List.mem_iff_getElem?.1 hm
    rw [List.getElem?_take] at hk
    split at hk
    · rename_i hlt; exact h2 k hlt hk
    · cases hk
theorem idx_cases (l : List UInt8) (c : UInt8) : (indexByte l c = -1 ∧ c ∉ l) ∨ ∃ i : Nat, indexByte l c = (i : Int) ∧ i < l.length ∧ l = l.take i ++ c :: l.drop (i + 1) ∧ c ∉ l.take i := by
  by_cases h : indexByte l c < 0
  · left; have := Go.Lib.indexByte_ge l c; exact ⟨by omega, idx_none h⟩
  · right; exact ⟨(indexByte l c).toNat, by omega, idx_some (by omega)⟩

inductive Sd where
  | reg (x : Int) | plc (x y : Int) | fre | non | bad
deriving DecidableEq
def sideF (t : List UInt8) : Sd :=
  if t = [110, 101, 119] then .fre else if t = [48] then .non else match t with
    | [x] => .reg ((x.toNat : Int) - 65)
    | [x, y, z] => if y = 46 then .plc ((x.toNat : Int) - 65) ((z.toNat : Int) - 48) else .bad
    | _ => .bad
def opF : Sd → Sd → Option Oq
  | .plc a s, .reg r => some ⟨2, r, a, s⟩
  | .reg r, .plc a s => some ⟨1, r, a, s⟩
  | .reg r, .fre => some ⟨3, r, 0, 0⟩
  | .reg r, .non => some ⟨5, r, 0, 0⟩
  | .reg r, .reg q => some ⟨4, r, q, 0⟩
  | _, _ => none
def eqCut : List UInt8 → List UInt8 × List UInt8
  | [] => ([], [])
  | b :: t => if b = 61 then ([], t) else (b :: (eqCut t).1, (eqCut t).2)
def readF (t : List UInt8) : Option Oq := match opF (sideF (eqCut t).1) (sideF (eqCut t).2) with | none => none | some o => if cText o = t then some o else none
theorem eqCut_none : ∀ {t : List UInt8}, (61 : UInt8) ∉ t → eqCut t = (t, [])
  | [], _ => rfl
  | b :: t, h => by
    have hb : b ≠ 61 := fun e => h (by simp [e])
    rw [eqCut, if_neg hb, eqCut_none fun hm => h (List.mem_cons_of_mem _ hm)]
theorem eqCut_some : ∀ {p r : List UInt8}, (61 : UInt8) ∉ p → eqCut (p ++ 61 :: r) = (p, r)
  | [], _, _ => rfl
  | b :: p, r, h => by
    have hb : b ≠ 61 := fun e => h (by simp [e])
    rw [List.cons_append, eqCut, if_neg hb, eqCut_some fun hm => h (List.mem_cons_of_mem _ hm)]
theorem read_all : ∀ x ∈ cAll, readF (cText x) = some x := by decide +kernel
theorem readF_is (t : List UInt8) : readF t = cOne t := by
  cases hc : cOne t with
  | some o =>
    obtain ⟨h1, h2⟩ := one_some hc
    rw [← h2]; exact read_all o (mem_all.2 h1)
  | none =>
    unfold readF
    cases ho : opF (sideF (eqCut t).1) (sideF (eqCut t).2) with
    | none => rfl
    | some o =>
      simp only
      split
      · rename_i he
        exfalso
        cases hr : cRight o 4 4 with
        | true => rw [← he, one_text hr] at hc; cases hc
        | false =>
          rw [(text_no o).2 hr] at he
          rw [← he] at ho
          rw [show opF (sideF (eqCut [63]).1) (sideF (eqCut [63]).2) = none by decide] at ho
          cases ho
      · rfl
/-- a side's numbers are small -/
theorem sideF_reg {t : List UInt8} {x : Int} (h : sideF t = .reg x) : ∃ b : UInt8, t = [b] ∧ x = (b.toNat : Int) - 65 := by
  rcases t with _ | ⟨b, _ | ⟨c, _ | ⟨d, _ | ⟨e, t⟩⟩⟩⟩
  · simp [sideF] at h
  · refine ⟨b, rfl, ?_⟩
    unfold sideF at h
    rw [if_neg (by simp)] at h
    split at h
    · cases h
    · injection h with h; exact h.symm
  · simp [sideF] at h
  · unfold sideF at h
    split at h
    · cases h
    · rw [if_neg (by simp)] at h
      simp only at h
      split at h <;> cases h
  · simp [sideF] at h
theorem sideF_plc {t : List UInt8} {x y : Int} (h : sideF t = .plc x y) : ∃ a b : UInt8, t = [a, 46, b] ∧ x = (a.toNat : Int) - 65 ∧ y = (b.toNat : Int) - 48 := by
  rcases t with _ | ⟨b, _ | ⟨c, _ | ⟨d, _ | ⟨e, t⟩⟩⟩⟩
  · simp [sideF] at h
  · unfold sideF at h
    rw [if_neg (by simp)] at h
    split at h <;> cases h
  · simp [sideF] at h
  · unfold sideF at h
    split at h
    · cases h
    · rw [if_neg (by simp)] at h
      simp only at h
      split at h
      · rename_i hm; subst hm; injection h with h1 h2; exact ⟨b, d, rfl, h1.symm, h2.symm⟩
      · cases h
  · simp [sideF] at h
end Go.Proofs.YtffdgkofolomlaaDoor
