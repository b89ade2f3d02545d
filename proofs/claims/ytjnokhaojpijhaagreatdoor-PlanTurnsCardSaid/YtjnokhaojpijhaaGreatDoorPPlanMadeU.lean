/- Layer plan: the law's own: a plan by bytes, its numbers out of sight; it is right. -/
import Derived.Test.YtjnokhaojpijhaaGreatDoorPPlanMade
import Derived.Test.YtjnokhaojpijhaaGreatDoorPPlanM
import Derived.Test.YtjnokhaojpijhaaGreatDoorPExtra
namespace Go.Proofs.YtjnokhaojpijhaaGreatDoor
open Go.RowKit Go.Shelf Go.Proofs Go.Joins
theorem made_h (v : Value) (l : List Int) (w : World) (hl : Bytes w v l) (hr : ∀ b ∈ l, 0 ≤ b ∧ b ≤ 255) :
    Calls Tryz.prog 15 #[v] w fun x w' => ∃ (a b c d e f g h n : Int) (s : Nat) (lo lr : Rws) (lp : List (List Oq)) (A0 : Option Addr) (c0 : Nat) (A1 : Option Addr) (c1 : Nat) (A2 : Option Addr) (c2 : Nat), x = .returned (planV a b c d e f g h n (.slice A0 lo.length c0) s (.slice A1 lr.length c1) (.slice A2 lp.length c2) (.slice none 0 0)) ∧
      Hid (PlanR w' (.slice A0 lo.length c0) (.slice A1 lr.length c1) (.slice A2 lp.length c2) (.slice none 0 0) ⟨a, b, c, d, e, f, g, h, n, lo, s, lr, lp, []⟩) ∧ Hid ((⟨a, b, c, d, e, f, g, h, n, lo, s, lr, lp, []⟩ : Pq) = madeG (byteG (l.take 90))) ∧ Below w.heap.size w w' := by
  refine (made_any v l w hl hr _ rfl).mono ?_
  rintro x w' ⟨ob, rg, pg, rfl, hR, hb⟩
  obtain ⟨A0, c0, e0, -⟩ := hR.ob.form
  obtain ⟨A1, c1, e1, -⟩ := hR.rg.form
  obtain ⟨A2, c2, e2, -⟩ := hR.pg.form
  subst e0 e1 e2
  exact ⟨_, _, _, _, _, _, _, _, _, _, _, _, _, A0, c0, A1, c1, A2, c2, rfl, hide ⟨hR.ob, hR.rg, hR.pg, Sl.nil_⟩, hide rfl, hb⟩
/-- what is known of it -/
structure MadeQ (p : Pq) : Prop where
  rt : PRt p
  wk : p.wk ≤ 3
  mu : p.mu ≤ 2
  ob : p.ob.length ≤ 6
  ro : p.ro < 18446744073709551616
  rr : Rng p.rg
theorem madeQ (g : Nat → Int) : MadeQ (madeG g) := by
  have h : PRt (madeG g) := made_right g (ps := []) (by decide) (by simp)
  have h0 := mG g 0 3 (by decide)
  have h1 := mG g 1 3 (by decide)
  have h8 := mG g 8 6 (by decide)
  have hn : 1 ≤ nG g ∧ nG g ≤ 6 := by unfold nG; omega
  have hl : (madeG g).ob.length ≤ 6 := by
    show (objsG g (nG g) (slG g).toNat (nG g).toNat 10).length ≤ 6
    rw [(objsG_ok g (by omega) _ _ _).2]; omega
  refine ⟨h, ?_, ?_, hl, (made_small g).2.2, fun r hr x hx => ?_⟩
  · show 1 + g 0 % 3 ≤ 3; omega
  · show g 1 % 3 ≤ 2; omega
  · have := (regs_of h hr).1 x hx
    omega
end Go.Proofs.YtjnokhaojpijhaaGreatDoor
