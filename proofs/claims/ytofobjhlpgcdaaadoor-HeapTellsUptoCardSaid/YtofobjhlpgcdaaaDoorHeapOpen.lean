/- Layer heap: heaps that came in. -/
import Derived.Test.YtofobjhlpgcdaaaDoorTied
import Derived.Test.YtofobjhlpgcdaaaDoorHeapScal
import Derived.Shelf.Vars
import Derived.Lib.SmallJoins
namespace Go.Proofs.YtofobjhlpgcdaaaDoor
open Go.RowKit Go.WideShapes Go.ChangeShapes Go.ChangeAt Go.Proofs

set_option maxRecDepth 100000 in
theorem open_heap {H : Type} {enc : TypeId × Value → H} {W : World} {base : Nat} {spare : Nat → Bool} {held : Bool} {v : Value} {d : DataW H} {ps : List MemPlace} {r : Reach} {b0 : Nat} (ok : Value.okWide Tryd.prog W r b0 24 v) (h : DataW.Trod enc Tryd.prog W base spare held 24 v d ps) :
    ∃ (n : Int) (u : Value) (ls : Rws), v = hv n u ∧ Grid W u ls ∧ (-9223372036854775808 ≤ n ∧ n ≤ 9223372036854775807) ∧ Rng ls ∧ ((∀ k ∈ d.weights Tryd.prog 24, k ≤ 140737488351232) → Fit ls) := by
  obtain ⟨v0, v1, y0, y1, m, rfl, rfl, rfl, h0, h1⟩ := Joins.open_agg2 Tryd.underlying24 (by kernel_rfl) (by kernel_rfl) ok h
  obtain ⟨a, ha, _, wa⟩ := DataW.trod_int Tryd.underlying3 h0
  obtain ⟨u, ls, hu, hG, hR, hF, -⟩ := open_grid Tryd.underlying22 Tryd.underlying53 Tryd.underlying3 (by kernel_rfl) (by kernel_rfl) (by kernel_rfl) (by kernel_rfl) h1
  simp only [List.cons.injEq, and_true] at ha hu
  subst ha; subst hu
  refine ⟨a, v1, ls, rfl, hG, by simpa [Lit.wf, IntKind.min, IntKind.max, IntKind.signed, IntKind.bits] using wa, hR, fun hw => hF fun k hk => hw k ?_⟩
  simp only [DataW.weights, Tryd.underlying24]
  simp only [List.map_cons, List.map_nil, DataW.weightsEach, List.mem_append]
  exact .inr (.inl hk)
end Go.Proofs.YtofobjhlpgcdaaaDoor
