/- Layer pick: a slice of picks that came in, read as a list. -/
import Derived.Test.YtbnnhalbgkaedaaFair
import Derived.Test.YtbnnhalbgkaedaaLaw
namespace Go.Proofs.Ytbnnhalbgkaedaa
open Go.RowKit Go.WideShapes Go.ChangeShapes Go.ChangeAt Go.Deep

section
variable {H : Type} {enc : TypeId × Value → H} {W : World}
theorem pick_elem {base : Nat} {spare : Nat → Bool} {held : Bool} (n : Nat) (cs : List Value) (x : DataW H × List MemPlace) (h : DataW.trod enc Try.prog W base spare held n 32 cs = some x) : ∃ p : PP, cs = pc p ∧ Wf p := by
  obtain ⟨xs, m, _, _, hl, hxl, hf⟩ := DataW.trod_struct Try.underlying32 h
  rw [cellsPick] at hl
  have hxl : xs.length = 2 := hxl
  match cs, hl with
  | [c0, c1], _ =>
    match xs, hxl with
    | [x0, x1], _ =>
      have f0 : DataW.trod enc Try.prog W base spare held m 3 [c0] = some x0 := by have := hf 0 _ rfl; simpa [cellsInt] using this
      have f1 : DataW.trod enc Try.prog W base spare held m 3 [c1] = some x1 := by have := hf 1 _ rfl; simpa [cellsInt] using this
      obtain ⟨a, ha, _, wa⟩ := DataW.trod_int Try.underlying3 f0
      obtain ⟨b, hb, _, wb⟩ := DataW.trod_int Try.underlying3 f1
      simp at ha hb
      subst ha; subst hb
      exact ⟨(a, b), rfl, wa, wb⟩
theorem open_picks {base : Nat} {spare : Nat → Bool} {held : Bool} {v : Value} {d : DataW H} {ps : List MemPlace} {r : Reach} {b0 : Nat} (ok : Value.okWide Try.prog W r b0 22 v) (h : DataW.Trod enc Try.prog W base spare held 22 v d ps) :
    ∃ l : List PP, Picks W v l ∧ (∀ p ∈ l, Wf p) ∧ ((d = .nil ∧ l = []) ∨ ∃ el rest, d = .slice el rest ∧ el.length = l.length) :=
  sl_of_trod Try.underlying22 cellsPick (by decide) pc_len pick_elem ok h
end
end Go.Proofs.Ytbnnhalbgkaedaa
