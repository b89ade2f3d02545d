import Derived.Deep.RegionHeldLaw
import Derived.Deep.RegionLaw
import Derived.Deep.Cut
import Derived.Test.YtdmbcjckgfjcaaaGreatDoorRai
import Derived.Test.YtdmbcjckgfjcaaaGreatDoorRas
/- Layer code: named values; a slice of ops that is known. -/
namespace Go.Proofs.YtdmbcjckgfjcaaaGreatDoor
open Go.RowKit Go.Shelf Go.Proofs
theorem Fits_c (l : List Oq) (N : Nat) (p q : Int) (b : Bool) (A : Option Addr) (c : Nat) (hN : l.length = N) (hF : cFits l p q = b) (w : World) (h : Oqs w (.slice A N c) l) :
    Calls Tryz.prog 148 #[.slice A N c, .int .i64 p, .int .i64 q] w fun e w' => e = .returned (.bool b) ∧ Below w.heap.size w w' := by
  subst hN hF
  exact Fits_any _ l p q w h
end Go.Proofs.YtdmbcjckgfjcaaaGreatDoor
/- Layer code: two ops compared. -/
namespace Go.Proofs.YtdmbcjckgfjcaaaGreatDoor
open Go.RowKit Go.Shelf Go.Proofs
theorem fieldsCop : Tryz.prog.underlying 99 = some (.struct (Tryz.prog.fieldsOf 99)) := by kernel_rfl
theorem eqIn_cop (a b c d a' b' c' d' : Int) (w : World) : (Op.equalIn 10000 99 (qv a b c d) (qv a' b' c' d')).run Tryz.prog w = .ok (decide ((⟨a, b, c, d⟩ : Oq) = ⟨a', b', c', d'⟩)) w := by
  rw [run_equalIn_agg w 9999 _ _ _ fieldsCop Tryz.stoodInHeld99]
  have hf : (Tryz.prog.fieldsOf 99).toList = [⟨ "Kind", 3, 0, false, "", "", 0⟩, ⟨ "R", 3, 1, false, "", "", 8⟩, ⟨ "A", 3, 2, false, "", "", 16⟩, ⟨ "S", 3, 3, false, "", "", 24⟩] := by kernel_rfl
  rw [hf]
  by_cases h : a = a' <;> by_cases h1 : b = b' <;> by_cases h2 : c = c' <;> by_cases h3 : d = d' <;> simp [Op.eqFields, go_sem, h, h1, h2, h3]
theorem neq_cop (a b c d a' b' c' d' : Int) (w : World) : (binOp .neq 99 (qv a b c d) (qv a' b' c' d')).run Tryz.prog w = .ok (.bool (!decide ((⟨a, b, c, d⟩ : Oq) = ⟨a', b', c', d'⟩))) w := by
  rw [run_neq_struct, eqIn_cop]; rfl
end Go.Proofs.YtdmbcjckgfjcaaaGreatDoor
