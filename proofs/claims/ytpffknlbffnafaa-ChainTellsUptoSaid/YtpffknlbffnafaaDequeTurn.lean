/- Layer deque: the deeds of a machine that turns: do, load, store, takeTop. -/
import Derived.Test.YtpffknlbffnafaaDequeMach
import Derived.StillTailTactics
namespace Go.Proofs.Ytpffknlbffnafaa
open Go.RowKit

abbrev pt (B : Nat) : Value := .pointer (some ⟨B, 0, none⟩)
theorem own_ne {w : World} {base n B : Nat} {e : TypeId} {v : Value} {xs : List Value} (h : w.ownsRow base e 1 v n xs) (hB : B < base) : ∀ x, v.ownBlock = some x → x ≠ B := fun x hx e => by
  have := (h.lt x hx).1; omega
theorem cells_form' {w : World} {v : Value} {l : List Int} (h : Cells w v l) : ∃ A c, v = .slice A l.length c ∧ l.length ≤ c ∧ c ≤ 9223372036854775807 := by
  obtain ⟨A, c, rfl, h1, h2, -⟩ := h
  exact ⟨A, c, rfl, h1, by unfold maxLen at h2; omega⟩
theorem mF_load (m : List Int) (a : Int) : mF m ⟨1, a, 0, 0⟩ = m := by
  by_cases h : (1 ≤ (1 : Int) ∧ (1 : Int) ≤ 4) ∧ 0 ≤ a ∧ a < (m.length : Int)
  · rw [(at_on (o := ⟨1, a, 0, 0⟩) h).2.2]
    exact set_self (o := ⟨1, a, 0, 0⟩)
  · exact (at_off (o := ⟨1, a, 0, 0⟩) h).2.2

theorem wrap_s (n : Int) : IntKind.i64.wrap n = s64 n := by
  simp [IntKind.wrap, IntKind.bits, IntKind.signed, s64]; try omega
theorem wrap64_s (n : Int) : wrap64 n = s64 n := by unfold wrap64 s64; try omega
theorem wrap_w (n : Int) : IntKind.u64.wrap n = w64 n := wrap_u n

section
variable {w : World} {B : Nat} {k p s c b t x u : Int} {v : Value} {m : List Int}
end
end Go.Proofs.Ytpffknlbffnafaa
