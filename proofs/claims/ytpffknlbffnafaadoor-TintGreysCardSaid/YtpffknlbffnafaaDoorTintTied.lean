/- Layer tint: what the listed variables hold, for the walks; colours that came in. -/
import Derived.Test.YtpffknlbffnafaaDoorTied
import Derived.Test.YtpffknlbffnafaaDoorTintEx
import Derived.Shelf.Vars
import Derived.Lib.SmallJoins
namespace Go.Proofs.YtpffknlbffnafaaDoor
open Go.RowKit Go.WideShapes Go.ChangeShapes Go.ChangeAt Go.Shelf Go.Proofs

theorem tab_data64 : (Rows.laid_math_bits_deBruijn64tab : DataW Unit) = Go.Lib.tabData .u8 (Go.Lib.deBruijn64tab.map Int.ofNat) := rfl
theorem let_data : (Rows.laid_besom_tint_letters : DataW Unit) = Go.Lib.tabData .u8 [119, 103, 98] := rfl
theorem envT_of {r : List (String × DataW Unit)} {W : World} (h1 : laidMet Tryd.prog (("math/bits.deBruijn64tab", Rows.laid_math_bits_deBruijn64tab) :: r) W) : EnvT W := by
  rw [tab_data64] at h1
  refine ⟨fun j hj => ?_⟩
  have ht := Go.Lib.tabIs_of_head (g := 1) (t := 83) (by kernel_rfl) (by kernel_rfl) Tryd.underlying83 Tryd.underlying5 (by kernel_rfl) (by kernel_rfl) h1
  have := ht.cell (g := 1) (by kernel_rfl) j (by simpa using hj)
  rw [this]
  simp [List.getD, hj]
theorem let_of {r : List (String × DataW Unit)} {W : World} (h1 : laidMet Tryd.prog (("besom/tint.letters", Rows.laid_besom_tint_letters) :: r) W) : ∀ j : Nat, j < 3 → W.cell? ⟨0, j, none⟩ = some (.int .u8 ((tLetter (j : Int)).toNat : Int)) := by
  rw [let_data] at h1
  intro j hj
  have ht := Go.Lib.tabIs_of_head (g := 0) (t := 70) (by kernel_rfl) (by kernel_rfl) Tryd.underlying70 Tryd.underlying5 (by kernel_rfl) (by kernel_rfl) h1
  have := ht.cell (g := 0) (by kernel_rfl) j (by simpa using hj)
  rw [this]
  have h : ∀ i : Fin 3, ([119, 103, 98].getD i.val 0 : Int) = ((tLetter ((i.val : Nat) : Int)).toNat : Int) := by decide +kernel
  have := h ⟨j, hj⟩
  simp [List.getD, hj] at this ⊢
  first | exact this | omega
theorem envL_of_laid {W : World} (h : laidMetH Tryd.prog Rows.tintGreysRow.laid W) : EnvL W := by
  rw [MakeChecks.laidMetH_plain _ _ _ (by kernel_rfl)] at h
  have h1 := laidMet.tail h
  exact ⟨by first | exact envT_of h | exact envT_of h1, by first | exact let_of h | exact let_of h1⟩
set_option maxRecDepth 100000 in
theorem open_tint {H : Type} {enc : TypeId × Value → H} {W : World} {base : Nat} {spare : Nat → Bool} {held : Bool} {v : Value} {d : DataW H} {ps : List MemPlace} {r : Reach} {b0 : Nat} (ok : Value.okWide Tryd.prog W r b0 25 v) (h : DataW.Trod enc Tryd.prog W base spare held 25 v d ps) :
    ∃ m b : Nat, v = tv m b ∧ m < 18446744073709551616 ∧ b < 18446744073709551616 := by
  obtain ⟨v0, v1, y0, y1, m, rfl, -, -, h0, h1⟩ := Joins.open_agg2 Tryd.underlying25 (by kernel_rfl) (by kernel_rfl) ok h
  obtain ⟨a, ha, _, wa⟩ := DataW.trod_int Tryd.underlying23 h0
  obtain ⟨c, hc, _, wc⟩ := DataW.trod_int Tryd.underlying23 h1
  simp only [List.cons.injEq, and_true] at ha hc
  subst ha; subst hc
  have ra : 0 ≤ a ∧ a ≤ 18446744073709551615 := by simpa [Lit.wf, IntKind.min, IntKind.max, IntKind.signed, IntKind.bits] using wa
  have rc : 0 ≤ c ∧ c ≤ 18446744073709551615 := by simpa [Lit.wf, IntKind.min, IntKind.max, IntKind.signed, IntKind.bits] using wc
  obtain ⟨n, rfl⟩ : ∃ n : Nat, a = n := ⟨a.toNat, by omega⟩
  obtain ⟨k, rfl⟩ : ∃ k : Nat, c = k := ⟨c.toNat, by omega⟩
  exact ⟨n, k, rfl, by omega, by omega⟩
end Go.Proofs.YtpffknlbffnafaaDoor
