/- Layer heap: what the listed variables hold, for HeapTells -/
import Derived.Test.YtofobjhlpgcdaaaDoorHeapOpen
import Derived.Test.YtofobjhlpgcdaaaDoorHeapEx
import Derived.Shelf.Vars
namespace Go.Proofs.YtofobjhlpgcdaaaDoor
open Go.RowKit Go.WideShapes Go.ChangeShapes Go.ChangeAt Go.Shelf Go.Proofs

theorem star_es : "*" ++ "errors.errorString" = "*errors.errorString" := by decide
theorem row_es (u : TypeId) (h : Tryd.prog.typeName? 3 u = some "*errors.errorString") : u = 148 :=
  typeName_ptr_named (nm := "errors.errorString") (by rw [star_es]; kernel_rfl) (by kernel_rfl) (by decide) u (by rw [star_es]; exact h)
theorem sentinel_cell {r : List (String × DataW Unit)} {W : World} {n : String} {text : List UInt8} {g : Nat} (h : laidMet Tryd.prog ((n, .iface "*errors.errorString" (.ptr (.agg [.lit (.string text)]))) :: r) W)
    (hg : Tryd.prog.globalNamed n = some g) (ht : (Tryd.prog.globals[g]?).map (·.type) = some 71) : ∃ te pe, W.cell? ⟨g, 0, none⟩ = some (.iface te pe) := by
  obtain ⟨a, s, hv, -⟩ := laid_sentinel (tp := 148) (te := 150) (ts := 9) h hg ht Tryd.underlying71 row_es Tryd.underlying148 Tryd.underlying150 rfl rfl Tryd.underlying9 (by kernel_rfl) (by kernel_rfl)
  have := World.var?_cell hg hv 0
  exact ⟨_, _, by simpa using this⟩
theorem tab_data : (Rows.laid_internal_strconv_uint64pow10 : DataW Unit) = Go.Lib.tabData .u64 Go.Lib.pow10Tab := rfl
theorem env_of_laid {W : World} (h : laidMetH Tryd.prog Rows.heapTellsUptoRow.laid W) : EnvH W := by
  rw [MakeChecks.laidMetH_plain _ _ _ (by kernel_rfl)] at h
  have h1 := laidMet.tail h
  have h2 := laidMet.tail h1
  have h3 := laidMet.tail h2
  have h4 := laidMet.tail h3
  have h5 := laidMet.tail h4
  rw [tab_data] at h2
  exact ⟨Go.Lib.tabIs_of_head (g := 0) (t := 113) (by kernel_rfl) (by kernel_rfl) Tryd.underlying113 Tryd.underlying79 (by kernel_rfl) (by kernel_rfl) h2,
    sentinel_cell h5 (by kernel_rfl) (by kernel_rfl), sentinel_cell h4 (by kernel_rfl) (by kernel_rfl)⟩
end Go.Proofs.YtofobjhlpgcdaaaDoor
