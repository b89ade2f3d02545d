/- Layer set: the set of a list, one behind another. -/
import Derived.Test.YtdmbcjckgfjcaaaGreatDoorQaa
namespace Go.Proofs.YtdmbcjckgfjcaaaGreatDoor
theorem ofF_snoc (l : List Int) (k : Nat) (h : k < l.length) : ofF (l.take (k + 1)) = addF (ofF (l.take k)) l[k] := by
  rw [List.take_succ_eq_append_getElem h, ofF, List.foldl_append]; rfl
end Go.Proofs.YtdmbcjckgfjcaaaGreatDoor
