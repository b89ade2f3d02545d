/- Layer bag: bags that came in. -/
import Derived.Test.YtggfckednjojgaaLaw
import Derived.Test.YtggfckednjojgaaBagEx
import Derived.Test.YtggfckednjojgaaBagQ
namespace Go.Proofs.Ytggfckednjojgaa
open Go.RowKit Go.WideShapes Go.ChangeShapes Go.ChangeAt Go.Deep

set_option maxRecDepth 100000 in
theorem open_bag {H : Type} {enc : TypeId × Value → H} {W : World} {base : Nat} {spare : Nat → Bool} {held : Bool} {v : Value} {d : DataW H} {ps : List MemPlace} {r : Reach} {b0 : Nat} (ok : Value.okWide Try.prog W r b0 23 v) (h : DataW.Trod enc Try.prog W base spare held 23 v d ps) :
    ∃ l : List Int, Ints W v l ∧ AllK l ∧ ((d = .nil ∧ l = []) ∨ ∃ el rest, d = .slice el rest ∧ el.length = l.length) :=
  sl_of_trod Try.underlying23 (by kernel_rfl) (by decide) (fun _ => rfl) (fun n cs x hx => by
    obtain ⟨a, ha, _, wa⟩ := DataW.trod_int Try.underlying3 hx
    exact ⟨a, ha, by simpa [Kw, Lit.wf, IntKind.min, IntKind.max, IntKind.signed, IntKind.bits] using wa⟩) ok h
/-- a list behind a name: its length, its numbers -/
theorem named {l : List Int} {n : Nat} (hk : AllK l) (hn : l.length ≤ n) : ∃ r, l = r ∧ AllK r ∧ r.length ≤ n := ⟨l, rfl, hk, hn⟩
theorem sum_allK {a b : List Int} (ha : AllK a) (hb : AllK b) : AllK (sumB a b) := fun x hx => by
  have h := List.count_pos_iff.2 hx
  rw [sum_count] at h
  by_cases e : 0 < a.count x
  · exact ha x (List.count_pos_iff.1 e)
  · exact hb x (List.count_pos_iff.1 (by omega))
theorem less_allK {a b l : List Int} (ha : AllK a) (h : lessB a b = some l) : AllK l ∧ l.length ≤ a.length := by
  by_cases hle : ∀ o, b.count o ≤ a.count o
  · obtain ⟨l', h1, _, h3⟩ := less_some hle
    rw [h] at h1
    cases h1
    exact ⟨fun x hx => ha x (List.count_pos_iff.1 (by have := List.count_pos_iff.2 hx; rw [h3] at this; omega)), len_le_count fun o => by rw [h3]; omega⟩
  · rw [less_none (by simpa using hle)] at h
    cases h
end Go.Proofs.Ytggfckednjojgaa
