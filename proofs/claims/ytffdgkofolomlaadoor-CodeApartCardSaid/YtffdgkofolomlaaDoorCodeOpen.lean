/- Layer code: ops that came in. -/
import Derived.Test.YtffdgkofolomlaaDoorCodeEx
import Derived.Test.YtffdgkofolomlaaDoorTied
import Derived.Lib.SmallJoins
namespace Go.Proofs.YtffdgkofolomlaaDoor
open Go.RowKit Go.WideShapes Go.ChangeShapes Go.ChangeAt Go.Deep

def I64 (x : Int) : Prop := -9223372036854775808 ≤ x ∧ x ≤ 9223372036854775807
def OqI (q : Oq) : Prop := I64 q.kind ∧ I64 q.r ∧ I64 q.a ∧ I64 q.s
set_option maxRecDepth 100000 in
theorem open_cop {H : Type} {enc : TypeId × Value → H} {W : World} {base : Nat} {spare : Nat → Bool} {held : Bool} {v : Value} {d : DataW H} {ps : List MemPlace} {r : Reach} {b0 : Nat} (ok : Value.okWide Tryd.prog W r b0 24 v) (h : DataW.Trod enc Tryd.prog W base spare held 24 v d ps) :
    ∃ k t a b : Int, v = qv k t a b ∧ OqI ⟨k, t, a, b⟩ := by
  obtain ⟨v0, v1, v2, v3, y0, y1, y2, y3, m, rfl, rfl, rfl, h0, h1, h2, h3⟩ := Joins.open_agg4 Tryd.underlying24 (by kernel_rfl) (by kernel_rfl) ok h
  obtain ⟨k, hk, _, wk⟩ := DataW.trod_int Tryd.underlying3 h0
  obtain ⟨t, ht, _, wt⟩ := DataW.trod_int Tryd.underlying3 h1
  obtain ⟨a, ha, _, wa⟩ := DataW.trod_int Tryd.underlying3 h2
  obtain ⟨b, hb, _, wb⟩ := DataW.trod_int Tryd.underlying3 h3
  simp only [List.cons.injEq, and_true] at hk ht ha hb
  subst hk ht ha hb
  have i : ∀ {z : Int}, (Lit.int IntKind.i64 z).wf = true → I64 z := fun w => by simpa [I64, Lit.wf, IntKind.min, IntKind.max, IntKind.signed, IntKind.bits] using w
  exact ⟨k, t, a, b, rfl, i wk, i wt, i wa, i wb⟩
set_option maxRecDepth 100000 in
theorem open_cops {H : Type} {enc : TypeId × Value → H} {W : World} {base : Nat} {spare : Nat → Bool} {held : Bool} {v : Value} {d : DataW H} {ps : List MemPlace} {r : Reach} {b0 : Nat} (ok : Value.okWide Tryd.prog W r b0 22 v) (h : DataW.Trod enc Tryd.prog W base spare held 22 v d ps) :
    ∃ l : List Oq, Oqs W v l ∧ (∀ o ∈ l, OqI o) ∧ ((d = .nil ∧ l = []) ∨ ∃ el rest, d = .slice el rest ∧ el.length = l.length) :=
  sl_of_trod Tryd.underlying22 (by kernel_rfl) (by decide) (fun _ => rfl) (fun n cs x hx => by
    obtain ⟨y0, y1, y2, y3, m, hx0, hl, h0, h1, h2, h3⟩ := Joins.trod_struct4 Tryd.underlying24 hx
    have hc : Tryd.prog.cellsOf 24 = 4 := by kernel_rfl
    rw [hc] at hl
    obtain ⟨k, hk, _, wk⟩ := DataW.trod_int Tryd.underlying3 h0
    obtain ⟨t, ht, _, wt⟩ := DataW.trod_int Tryd.underlying3 h1
    obtain ⟨a, ha, _, wa⟩ := DataW.trod_int Tryd.underlying3 h2
    obtain ⟨b, hb, _, wb⟩ := DataW.trod_int Tryd.underlying3 h3
    have e1 : Tryd.prog.cellsOf 3 = 1 := by kernel_rfl
    simp only [e1] at hk ht ha hb
    have i : ∀ {z : Int}, (Lit.int IntKind.i64 z).wf = true → I64 z := fun w => by simpa [I64, Lit.wf, IntKind.min, IntKind.max, IntKind.signed, IntKind.bits] using w
    match cs, hl with
    | [c0, c1, c2, c3], _ =>
      simp only [List.drop_zero, List.drop_succ_cons, List.take_succ_cons, List.take_zero, List.cons.injEq, and_true] at hk ht ha hb
      subst hk ht ha hb
      exact ⟨⟨k, t, a, b⟩, rfl, i wk, i wt, i wa, i wb⟩) ok h
end Go.Proofs.YtffdgkofolomlaaDoor
