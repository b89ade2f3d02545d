/- Lemmas that the texts of later laws want, too. -/
import Derived.Test.YtjnokhaojpijhaaGreatDoorPac
namespace Go.Proofs.YtjnokhaojpijhaaGreatDoor
open Go.RowKit


section
variable {α : Type} {enc : α → List Value} {size : Nat} {w : World} {l : List α} {A : Option Addr} {n c j : Nat}
theorem sl_len (h : Sl enc size w (.slice A n c) l) : n = l.length := by
  obtain ⟨A', c', e, _⟩ := h; injection e
/-- l[:j] -/
theorem sl_take (h : Sl enc size w (.slice A n c) l) (hj : j ≤ n) : Sl enc size w (.slice A j c) (l.take j) := by
  have hn := sl_len h
  obtain ⟨A', c', e, h1, h2, h3⟩ := h
  injection e with e1 e2 e3
  subst e1; subst e3; subst hn
  have hl : (l.take j).length = j := by rw [List.length_take]; omega
  refine ⟨_, _, by rw [hl], by omega, h2, fun h0 => ?_⟩
  rw [hl] at h0
  obtain ⟨b, off, rfl, hb, hc⟩ := h3 (by omega)
  refine ⟨b, off, rfl, hb, fun i p hp k u hu => ?_⟩
  rw [List.getElem?_take] at hp
  split at hp
  · exact hc i p hp k u hu
  · cases hp
end

end Go.Proofs.YtjnokhaojpijhaaGreatDoor
