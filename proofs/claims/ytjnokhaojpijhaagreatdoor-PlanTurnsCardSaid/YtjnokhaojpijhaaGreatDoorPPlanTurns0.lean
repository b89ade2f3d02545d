/- Layer plan: the law PlanTurns: what its cases share. Written by tools/genplanturns.py. -/
import Derived.Test.YtjnokhaojpijhaaGreatDoorPPlanMadeU
import Derived.Test.YtjnokhaojpijhaaGreatDoorPPlanPicks
import Derived.Test.YtjnokhaojpijhaaGreatDoorPbl
import Derived.Test.YtjnokhaojpijhaaGreatDoorPExtra
namespace Go.Proofs.YtjnokhaojpijhaaGreatDoor
open Go.RowKit Go.Shelf Go.Proofs Go.Joins
theorem hP_form {w : World} {A0 A1 A2 : Option Addr} {c0 c1 c2 : Nat} {p : Pq} {pk : Value} (h : PlanR w (.slice A0 p.ob.length c0) (.slice A1 p.rg.length c1) (.slice A2 p.pg.length c2) pk p) :
    p.ob.length ≤ c0 ∧ c0 ≤ 9223372036854775807 ∧ p.rg.length ≤ c1 ∧ c1 ≤ 9223372036854775807 ∧ p.pg.length ≤ c2 ∧ c2 ≤ 9223372036854775807 := by
  obtain ⟨B0, d0, e0, h0, k0⟩ := h.ob.form
  obtain ⟨B1, d1, e1, h1, k1⟩ := h.rg.form
  obtain ⟨B2, d2, e2, h2, k2⟩ := h.pg.form
  injection e0 with _ _ e0
  injection e1 with _ _ e1
  injection e2 with _ _ e2
  subst e0 e1 e2
  unfold maxLen at k0 k1 k2
  exact ⟨h0, k0, h1, k1, h2, k2⟩
theorem Add_nPl (s : Nat) (o : Int) (w : World) (hs : s < 18446744073709551616) (h0 : -9223372036854775808 ≤ o) (h1 : o ≤ 9223372036854775807) (r : Nat) (hr : addF s o = r) :
    Calls Tryz.prog 34 #[.int .u64 s, .int .i64 o] w fun e w' => e = .returned (.int .u64 (r : Nat)) ∧ w' = w := by
  subst hr; exact Add_any s o w hs h0 h1
end Go.Proofs.YtjnokhaojpijhaaGreatDoor
