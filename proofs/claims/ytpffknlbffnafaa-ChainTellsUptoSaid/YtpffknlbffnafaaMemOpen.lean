/- Layer mem: cells and deeds that came in. -/
import Derived.Test.YtpffknlbffnafaaLaw
import Derived.Test.YtpffknlbffnafaaMemUse
import Derived.Lib.SmallJoins
namespace Go.Proofs.Ytpffknlbffnafaa
open Go.RowKit Go.WideShapes Go.ChangeShapes Go.ChangeAt Go.Deep

set_option maxRecDepth 100000 in
theorem open_cells {H : Type} {enc : TypeId × Value → H} {W : World} {base : Nat} {spare : Nat → Bool} {held : Bool} {v : Value} {d : DataW H} {ps : List MemPlace} {r : Reach} {b0 : Nat} (ok : Value.okWide Try.prog W r b0 23 v) (h : DataW.Trod enc Try.prog W base spare held 23 v d ps) :
    ∃ l : List Int, Cells W v l ∧ AllU l ∧ ((d = .nil ∧ l = []) ∨ ∃ el rest, d = .slice el rest ∧ el.length = l.length) :=
  sl_of_trod Try.underlying23 (by kernel_rfl) (by decide) (fun _ => rfl) (fun n cs x hx => by
    obtain ⟨a, ha, _, wa⟩ := DataW.trod_int Try.underlying24 hx
    exact ⟨a, ha, by simpa [U, Lit.wf, IntKind.min, IntKind.max, IntKind.signed, IntKind.bits] using wa⟩) ok h
set_option maxRecDepth 100000 in
theorem open_op {H : Type} {enc : TypeId × Value → H} {W : World} {base : Nat} {spare : Nat → Bool} {held : Bool} {v : Value} {d : DataW H} {ps : List MemPlace} {r : Reach} {b0 : Nat} (ok : Value.okWide Try.prog W r b0 68 v) (h : DataW.Trod enc Try.prog W base spare held 68 v d ps) :
    ∃ k t a b : Int, v = ov k t a b ∧ DdU ⟨k, t, a, b⟩ := by
  obtain ⟨v0, v1, v2, v3, y0, y1, y2, y3, m, rfl, rfl, rfl, h0, h1, h2, h3⟩ := Joins.open_agg4 Try.underlying68 (by kernel_rfl) (by kernel_rfl) ok h
  obtain ⟨k, hk, _, wk⟩ := DataW.trod_int Try.underlying3 h0
  obtain ⟨t, ht, _, wt⟩ := DataW.trod_int Try.underlying3 h1
  obtain ⟨a, ha, _, wa⟩ := DataW.trod_int Try.underlying24 h2
  obtain ⟨b, hb, _, wb⟩ := DataW.trod_int Try.underlying24 h3
  simp only [List.cons.injEq, and_true] at hk ht ha hb
  subst hk ht ha hb
  exact ⟨k, t, a, b, rfl, by simpa [U, Lit.wf, IntKind.min, IntKind.max, IntKind.signed, IntKind.bits] using wa, by simpa [U, Lit.wf, IntKind.min, IntKind.max, IntKind.signed, IntKind.bits] using wb, by simpa [Lit.wf, IntKind.min, IntKind.max, IntKind.signed, IntKind.bits] using wk, by simpa [Lit.wf, IntKind.min, IntKind.max, IntKind.signed, IntKind.bits] using wt⟩
set_option maxRecDepth 100000 in
theorem open_ops {H : Type} {enc : TypeId × Value → H} {W : World} {base : Nat} {spare : Nat → Bool} {held : Bool} {v : Value} {d : DataW H} {ps : List MemPlace} {r : Reach} {b0 : Nat} (ok : Value.okWide Try.prog W r b0 66 v) (h : DataW.Trod enc Try.prog W base spare held 66 v d ps) :
    ∃ l : List Dd, Dds W v l ∧ (∀ o ∈ l, DdU o) ∧ ((d = .nil ∧ l = []) ∨ ∃ el rest, d = .slice el rest ∧ el.length = l.length) :=
  sl_of_trod Try.underlying66 (by kernel_rfl) (by decide) (fun _ => rfl) (fun n cs x hx => by
    obtain ⟨y0, y1, y2, y3, m, hx0, hl, h0, h1, h2, h3⟩ := Joins.trod_struct4 Try.underlying68 hx
    have hc : Try.prog.cellsOf 68 = 4 := by kernel_rfl
    rw [hc] at hl
    obtain ⟨k, hk, _, wk⟩ := DataW.trod_int Try.underlying3 h0
    obtain ⟨t, ht, _, wt⟩ := DataW.trod_int Try.underlying3 h1
    obtain ⟨a, ha, _, wa⟩ := DataW.trod_int Try.underlying24 h2
    obtain ⟨b, hb, _, wb⟩ := DataW.trod_int Try.underlying24 h3
    have e0 : Try.prog.cellsOf 3 = 1 := by kernel_rfl
    have e1 : Try.prog.cellsOf 24 = 1 := by kernel_rfl
    simp only [e0, e1] at hk ht ha hb
    match cs, hl with
    | [c0, c1, c2, c3], _ =>
      simp only [List.drop_zero, List.drop_succ_cons, List.take_succ_cons, List.take_zero, List.cons.injEq, and_true] at hk ht ha hb
      subst hk ht ha hb
      exact ⟨⟨k, t, a, b⟩, rfl, by simpa [U, Lit.wf, IntKind.min, IntKind.max, IntKind.signed, IntKind.bits] using wa, by simpa [U, Lit.wf, IntKind.min, IntKind.max, IntKind.signed, IntKind.bits] using wb, by simpa [Lit.wf, IntKind.min, IntKind.max, IntKind.signed, IntKind.bits] using wk, by simpa [Lit.wf, IntKind.min, IntKind.max, IntKind.signed, IntKind.bits] using wt⟩) ok h
end Go.Proofs.Ytpffknlbffnafaa
