/- Layer code: the document's Parse. -/
import Derived.Deep.AppendLies
import Derived.Test.YtjnokhaojpijhaaGreatDoorPaf
import Derived.Test.YtjnokhaojpijhaaGreatDoorPaa
import Derived.Test.YtjnokhaojpijhaaGreatDoorPai
namespace Go.Proofs.YtjnokhaojpijhaaGreatDoor
open Go.RowKit
theorem cOps_snoc {ps : List (List UInt8)} {i : Nat} (h : i < ps.length) {acc : List Oq} (ha : cOps (ps.take i) = some acc) : cOps (ps.take (i + 1)) = match cOne ps[i] with | some q => some (acc ++ [q]) | none => none := by
  rw [List.take_succ_eq_append_getElem h]
  generalize ps[i] = p
  generalize ps.take i = L at ha
  induction L generalizing acc with
  | nil =>
    simp only [cOps, Option.some.injEq] at ha
    subst ha
    simp only [List.nil_append, cOps]
    cases cOne p <;> simp
  | cons x L ih =>
    rw [cOps] at ha
    rw [List.cons_append, cOps]
    cases hx : cOne x with
    | none => rw [hx] at ha; cases ha
    | some y =>
      cases hL : cOps L with
      | none => rw [hx, hL] at ha; cases ha
      | some z =>
        rw [hx, hL] at ha
        simp only [Option.some.injEq] at ha
        subst ha
        rw [ih hL]
        cases cOne p <;> simp
theorem cOps_none {ps : List (List UInt8)} {i : Nat} (h : i < ps.length) (hn : cOne ps[i] = none) : cOps ps = none := by
  cases hc : cOps ps with
  | none => rfl
  | some l =>
    exfalso
    obtain ⟨h1, h2⟩ := cOps_some hc
    have hl : l.length = ps.length := by rw [← h1, List.length_map]
    have e : ps[i] = cText (l[i]'(by omega)) := by simp only [← h1, List.getElem_map]
    rw [e, one_text (h2 _ (List.getElem_mem _))] at hn
    cases hn
theorem cOps_len {ps : List (List UInt8)} {l : List Oq} (h : cOps ps = some l) : l.length = ps.length := by rw [← (cOps_some h).1, List.length_map]
end Go.Proofs.YtjnokhaojpijhaaGreatDoor
