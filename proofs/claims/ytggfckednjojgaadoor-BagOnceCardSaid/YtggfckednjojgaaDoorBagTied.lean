/- Layer bag: a set's list; what the listed table holds. -/
import Derived.Test.YtggfckednjojgaaDoorBagOpen
import Derived.Test.YtggfckednjojgaaDoorSetIter
import Derived.Test.YtggfckednjojgaaDoorTied
namespace Go.Proofs.YtggfckednjojgaaDoor
open Go.RowKit Go.WideShapes Go.ChangeShapes Go.ChangeAt Go.Shelf Go.Proofs

theorem List_c (s : Nat) (w : World) (hs : s < 18446744073709551616) (hE : EnvT w) (l : List Int) (hl : objs s = l) (m : Nat) (hm : l.length = m) :
    Calls Tryd.prog 6 #[.int .u64 s] w fun e w' => ∃ A c, e = .returned (.slice A m c) ∧ (m ≤ c ∧ c ≤ 2 ^ 63 - 1) ∧ Ints w' (.slice A m c) l ∧ Below w.heap.size w w' := by
  refine (List_tab s hs w hE).mono ?_
  rintro e w' ⟨v', rfl, ho, hbl⟩
  obtain ⟨A, c, rfl, h1, h2, h3⟩ := own_c hl hm ho hbl
  exact ⟨A, c, rfl, h1, h2, h3⟩
theorem Has_c (s : Nat) (o : Int) (w : World) (hs : s < 18446744073709551616) (ho : Kw o) (t : Bool) (ht : hasF s o = t) :
    Calls Tryd.prog 8 #[.int .u64 s, .int .i64 o] w fun e w' => e = .returned (.bool t) ∧ Below w.heap.size w w' := by
  subst ht
  refine (Has_any s o w hs ho.1 ho.2).mono ?_
  rintro e w' ⟨rfl, rfl⟩
  exact ⟨rfl, Below.refl _ _⟩
theorem objs_allK (s : Nat) : AllK (objs s) := fun x hx => by
  have := objs_rng hx
  unfold Kw; omega
theorem tab_data64 : (Rows.laid_math_bits_deBruijn64tab : DataW Unit) = Go.Lib.tabData .u8 (Go.Lib.deBruijn64tab.map Int.ofNat) := rfl
theorem envT_of_laid {W : World} (h : laidMetH Tryd.prog Rows.bagOnceRow.laid W) : EnvT W := by
  rw [MakeChecks.laidMetH_plain _ _ _ (by kernel_rfl)] at h
  have h1 : laidMet Tryd.prog [("math/bits.deBruijn64tab", Rows.laid_math_bits_deBruijn64tab)] W := h
  rw [tab_data64] at h1
  refine ⟨fun j hj => ?_⟩
  have ht := Go.Lib.tabIs_of_head (g := 0) (t := 55) (by kernel_rfl) (by kernel_rfl) Tryd.underlying55 Tryd.underlying5 (by kernel_rfl) (by kernel_rfl) h1
  have := ht.cell (g := 0) (by kernel_rfl) j (by simpa using hj)
  rw [this]
  simp [List.getD, hj]
end Go.Proofs.YtggfckednjojgaaDoor
