/- Layer heap: what the listed variables hold, for the walks; heaps that came in. -/
import Derived.Test.YtnbbjkikplfpoaaDoorTied
import Derived.Test.YtnbbjkikplfpoaaDoorHeapEx
import Derived.Shelf.Vars
namespace Go.Proofs.YtnbbjkikplfpoaaDoor
open Go.RowKit Go.WideShapes Go.ChangeShapes Go.ChangeAt Go.Shelf Go.Proofs

theorem star_es : "*" ++ "errors.errorString" = "*errors.errorString" := by decide
theorem row_es (u : TypeId) (h : Tryd.prog.typeName? 3 u = some "*errors.errorString") : u = 152 :=
  typeName_ptr_named (nm := "errors.errorString") (by rw [star_es]; kernel_rfl) (by kernel_rfl) (by decide) u (by rw [star_es]; exact h)
theorem sentinel_cell {r : List (String × DataW Unit)} {W : World} {n : String} {text : List UInt8} {g : Nat} (h : laidMet Tryd.prog ((n, .iface "*errors.errorString" (.ptr (.agg [.lit (.string text)]))) :: r) W)
    (hg : Tryd.prog.globalNamed n = some g) (ht : (Tryd.prog.globals[g]?).map (·.type) = some 75) : ∃ te pe, W.cell? ⟨g, 0, none⟩ = some (.iface te pe) := by
  obtain ⟨a, s, hv, -⟩ := laid_sentinel (tp := 152) (te := 154) (ts := 9) h hg ht Tryd.underlying75 row_es Tryd.underlying152 Tryd.underlying154 rfl rfl Tryd.underlying9 (by kernel_rfl) (by kernel_rfl)
  have := World.var?_cell hg hv 0
  exact ⟨_, _, by simpa using this⟩
theorem tab_data : (Rows.laid_internal_strconv_uint64pow10 : DataW Unit) = Go.Lib.tabData .u64 Go.Lib.pow10Tab := rfl
theorem env_of_laid {W : World} (h : laidMetH Tryd.prog Rows.heapSameRow.laid W) : EnvH W := by
  rw [MakeChecks.laidMetH_plain _ _ _ (by kernel_rfl)] at h
  have h1 := laidMet.tail h
  have h2 := laidMet.tail h1
  have h3 := laidMet.tail h2
  have h4 := laidMet.tail h3
  have h5 := laidMet.tail h4
  rw [tab_data] at h2
  exact ⟨Go.Lib.tabIs_of_head (g := 0) (t := 117) (by kernel_rfl) (by kernel_rfl) Tryd.underlying117 Tryd.underlying83 (by kernel_rfl) (by kernel_rfl) h2,
    sentinel_cell h5 (by kernel_rfl) (by kernel_rfl), sentinel_cell h4 (by kernel_rfl) (by kernel_rfl)⟩
set_option maxRecDepth 100000 in
theorem open_heap {H : Type} {enc : TypeId × Value → H} {W : World} {base : Nat} {spare : Nat → Bool} {held : Bool} {v : Value} {d : DataW H} {ps : List MemPlace} {r : Reach} {b0 : Nat} (ok : Value.okWide Tryd.prog W r b0 24 v) (h : DataW.Trod enc Tryd.prog W base spare held 24 v d ps) :
    ∃ (n : Int) (u : Value) (ls : Rws), v = hv n u ∧ Grid W u ls ∧ (-9223372036854775808 ≤ n ∧ n ≤ 9223372036854775807) ∧ Rng ls ∧ ((∀ k ∈ d.weights Tryd.prog 24, k ≤ 140737488351232) → Fit ls) := by
  obtain ⟨v0, v1, y0, y1, m, rfl, rfl, rfl, h0, h1⟩ := Joins.open_agg2 Tryd.underlying24 (by kernel_rfl) (by kernel_rfl) ok h
  obtain ⟨a, ha, _, wa⟩ := DataW.trod_int Tryd.underlying3 h0
  obtain ⟨u, ls, hu, hG, hR, hF, -⟩ := open_grid Tryd.underlying22 Tryd.underlying57 Tryd.underlying3 (by kernel_rfl) (by kernel_rfl) (by kernel_rfl) (by kernel_rfl) h1
  simp only [List.cons.injEq, and_true] at ha hu
  subst ha; subst hu
  refine ⟨a, v1, ls, rfl, hG, by simpa [Lit.wf, IntKind.min, IntKind.max, IntKind.signed, IntKind.bits] using wa, hR, fun hw => hF fun k hk => hw k ?_⟩
  simp only [DataW.weights, Tryd.underlying24]
  simp only [List.map_cons, List.map_nil, DataW.weightsEach, List.mem_append]
  exact .inr (.inl hk)
end Go.Proofs.YtnbbjkikplfpoaaDoor
