/- Layer deque: the law's world: a step by a byte. -/
import Derived.Test.YthjdjkcdlknhbaaDequeSteal
import Derived.Test.YthjdjkcdlknhbaaDequeOwn
import Derived.Test.YthjdjkcdlknhbaaDequeWorlds
namespace Go.Proofs.Ythjdjkcdlknhbaa
open Go.RowKit

set_option maxRecDepth 100000 in
set_option maxHeartbeats 4000000 in
theorem step_th (B g ct n : Nat) (cap : Int) (bb : Int) (w : World) (hb0 : 0 ≤ bb ∧ bb ≤ 255) (hbn : bb % 5 = (n : Int)) (hn : n < 3) (Q : Dw) (hst : Calls Try.prog 39 #[pt B, .int .i64 n] w (WPost w B g ct cap Q)) :
    Calls Try.prog 21 #[pt B, .int .u8 bb] w (WPost w B g ct cap Q) := by
  have HS := hide hst
  obtain ⟨hb1, hb2⟩ := hb0
  have e2 : bb.tmod 5 = (n : Int) := by rw [Int.tmod_eq_emod_of_nonneg hb1]; exact hbn
  have hni : (n : Int) < 3 := by omega
  have d0 : decide ((n : Int) < 3) = true := decide_eq_true hni
  clear hst
  go_enter Try.func21, Try.ntmps21
  go_wp2_with fail
  (with_reducible refine HS.out.mono ?_)
  rintro e w2 ⟨vM, vP, vG, rfl, hW, hF⟩
  have HRES := hide (show WPost w B g ct cap Q (.returned (.tuple #[])) w2 from ⟨_, _, _, rfl, hW, hF⟩)
  clear hW hF
  go_wp2
  go_end0
  exact HRES.out

theorem wstep_any (B g ct cap : Nat) (hi L : Nat) (d : Dw) (vM vP vG : Value) (w : World) (h : Wat w B g ct cap d vM vP vG) (hU : WU hi L d) (hh : hi ≤ 90000) (hc : cap ≤ 64) (hL : L ≤ 66) (b : Nat) (hb : b ≤ 255) :
    Calls Try.prog 21 #[pt B, .int .u8 (b : Int)] w (WPost w B g ct cap (stepW cap b d)) := by
  have hI : I6 (cap : Int) := by unfold I6; omega
  unfold stepW
  by_cases hk : b % 5 < 3
  · rw [if_pos hk]
    refine step_th B g ct (b % 5) cap b w ⟨by omega, by omega⟩ (by omega) hk _ ?_
    obtain ⟨t, ht⟩ : ∃ t, d.th.getD (b % 5) (startF 3 0 cap 0) = t := ⟨_, rfl⟩
    have hti : d.th[b % 5]? = some t := by
      rw [List.getD_eq_getElem?_getD] at ht
      rw [List.getElem?_eq_getElem (by rw [hU.th3]; exact hk)] at ht ⊢
      exact congrArg some ht
    have hd := hU.th t (List.mem_of_getElem? hti)
    obtain ⟨k, p, s, c, bq, tq, x, u⟩ := t
    obtain ⟨r, hr⟩ : ∃ r, stepF d.m ⟨k, p, s, c, bq, tq, x, u⟩ = r := ⟨_, rfl⟩
    obtain ⟨m1, ⟨k1, p1, s1, c1, b1, t1, x1, u1⟩⟩ := r
    have hs := steal_any B g ct (b % 5) cap d vM vP vG w h hk k p s c bq tq x u hti hU.m hd (by rw [hU.len]; omega) m1 k1 p1 s1 c1 b1 t1 x1 u1 hr hU.kg (by have := hU.lg; omega)
    have e : thF cap (b % 5) d = { d with m := m1, th := d.th.set (b % 5) (if u1 ≠ 0 then startF 3 0 cap 0 else ⟨k1, p1, s1, c1, b1, t1, x1, u1⟩), got := if u1 = 1 then addB d.got x1 1 else d.got } := by
      unfold thF
      simp only [ht, hr]
    rw [e]
    exact hs
  · rw [if_neg hk]
    obtain ⟨o, ho⟩ : ∃ o, beginF cap (decide (b / 5 % 2 = 1)) d = o := ⟨_, rfl⟩
    obtain ⟨⟨k, p, s, c, bq, tq, x, u⟩, nx⟩ := o
    have hu : u = 0 := by
      have e := ho
      unfold beginF at e
      split at e
      · split at e
        · simp only [Prod.mk.injEq, startF, Mc.mk.injEq] at e; exact e.1.2.2.2.2.2.2.2.symm
        · simp only [Prod.mk.injEq, startF, Mc.mk.injEq] at e; exact e.1.2.2.2.2.2.2.2.symm
      · rename_i hne
        simp only [Prod.mk.injEq] at e
        have : d.owner.out = u := by rw [e.1]
        rw [← this]
        exact Classical.byContradiction hne
    subst hu
    obtain ⟨r, hr⟩ : ∃ r, stepF d.m ⟨k, p, s, c, bq, tq, x, 0⟩ = r := ⟨_, rfl⟩
    obtain ⟨m1, ⟨k1, p1, s1, c1, b1, t1, x1, u1⟩⟩ := r
    have hdec : decide (((b : Nat) : Int) / 5 % 2 = 1) = decide (b / 5 % 2 = 1) := by
      rw [Bool.eq_iff_iff, decide_eq_true_eq, decide_eq_true_eq]; omega
    have hs := own_any B g ct cap d vM vP vG w h b ⟨by omega, by omega⟩ (by omega) k p s c bq tq x nx (by rw [hdec]; exact ho) ⟨hU.m, hU.o, by rw [hU.len]; omega, hU.kp, hU.kg, by have := hU.lp; omega, by have := hU.lg; omega⟩ hI ⟨hU.n0, by have := hU.n1; omega⟩ m1 k1 p1 s1 c1 b1 t1 x1 u1 hr
    have e : ownF cap (decide (b / 5 % 2 = 1)) d = { d with m := m1, owner := ⟨k1, p1, s1, c1, b1, t1, x1, u1⟩, next := nx, pushed := if u1 = 1 ∧ k1 = 1 then addB d.pushed x1 1 else d.pushed, got := if u1 = 1 ∧ k1 = 2 then addB d.got x1 1 else d.got } := by
      unfold ownF
      simp only [ho, hr]
    rw [e]
    exact hs
end Go.Proofs.Ythjdjkcdlknhbaa
