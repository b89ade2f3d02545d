/- Layer reach: what the listed table holds, for the walks. -/
import Derived.Test.YtohfpcnekfpdkaaDoorHeapOpen
import Derived.Test.YtohfpcnekfpdkaaDoorReachEx
namespace Go.Proofs.YtohfpcnekfpdkaaDoor
open Go.RowKit Go.WideShapes Go.ChangeShapes Go.ChangeAt Go.Shelf Go.Proofs

theorem tab_data64 : (Rows.laid_math_bits_deBruijn64tab : DataW Unit) = Go.Lib.tabData .u8 (Go.Lib.deBruijn64tab.map Int.ofNat) := rfl
theorem envT_of_laid {W : World} (h : laidMetH Tryd.prog Rows.reachGoesRow.laid W) : EnvT W := by
  rw [MakeChecks.laidMetH_plain _ _ _ (by kernel_rfl)] at h
  have h1 : laidMet Tryd.prog [("math/bits.deBruijn64tab", Rows.laid_math_bits_deBruijn64tab)] W := h
  rw [tab_data64] at h1
  refine ⟨fun j hj => ?_⟩
  have ht := Go.Lib.tabIs_of_head (g := 0) (t := 139) (by kernel_rfl) (by kernel_rfl) Tryd.underlying139 Tryd.underlying5 (by kernel_rfl) (by kernel_rfl) h1
  have := ht.cell (g := 0) (by kernel_rfl) j (by simpa using hj)
  rw [this]
  simp [List.getD, hj]
end Go.Proofs.YtohfpcnekfpdkaaDoor
