/- Lemmas that the texts of later laws want, too. -/
import Derived.Test.YtjnokhaojpijhaaGreatDoorPaa
import Derived.Test.YtjnokhaojpijhaaGreatDoorPai
import Derived.Deep.AppendLies
import Derived.Test.YtjnokhaojpijhaaGreatDoorPac
import Derived.Test.YtjnokhaojpijhaaGreatDoorPay
import Derived.Laws.IdiomStrings
import Derived.Lib.ItoaNum
namespace Go.Proofs.YtjnokhaojpijhaaGreatDoor
open Go.RowKit

/-- a piece, as a cell -/
def tcRf (p : B8) : List Value := [.string ⟨p.toArray⟩]
theorem tc_len (p : B8) : (tcRf p).length = 1 := rfl
abbrev Pcs (w : World) (v : Value) (l : List B8) : Prop := Sl tcRf 1 w v l
theorem ext_sub (t : ByteArray) (a b : Nat) : t.extract a b = ⟨((t.data.toList.drop a).take (b - a)).toArray⟩ := by
  apply ByteArray.ext
  apply Array.ext'
  rw [ByteArray.data_extract, Array.toList_extract]

end Go.Proofs.YtjnokhaojpijhaaGreatDoor
namespace Go.Proofs.YtjnokhaojpijhaaGreatDoor
open Go.RowKit

theorem pcs_at {w : World} {A : Option Addr} {n c k : Nat} {l : List B8} (h : Pcs w (.slice A n c) l) (hk : k < l.length) :
    ∃ b off, A = some ⟨b, off, none⟩ ∧ b < w.heap.size ∧ w.cell? ⟨b, off + k, none⟩ = some (.string ⟨l[k].toArray⟩) := by
  obtain ⟨A', c', e, h1, h2, h3⟩ := h
  injection e with e1 e2 e3
  subst e1
  obtain ⟨b, off, rfl, hb, hc⟩ := h3 (by omega)
  refine ⟨b, off, rfl, hb, ?_⟩
  have := hc k l[k] (List.getElem?_eq_getElem hk) 0 (.string ⟨l[k].toArray⟩) rfl
  simpa using this
end Go.Proofs.YtjnokhaojpijhaaGreatDoor
