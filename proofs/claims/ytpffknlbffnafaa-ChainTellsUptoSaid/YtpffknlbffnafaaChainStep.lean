/- Layer chain: Step: nothing is done. -/
import Derived.Test.YtpffknlbffnafaaChainStop
namespace Go.Proofs.Ytpffknlbffnafaa.ch
open Go.RowKit

/-- what Step leaves -/
def StepEnd (w : World) (m' : List Int) (d' : Cm) (e : Ending) (w' : World) : Prop := ∃ A c, e = .returned (.tuple #[.slice A m'.length c, mv d']) ∧ m'.length ≤ c ∧ c ≤ 9223372036854775807 ∧ Cells w' (.slice A m'.length c) m' ∧ Below w.heap.size w w' ∧ ∀ y, (Value.slice A m'.length c).ownBlock = some y → w.heap.size ≤ y
theorem StepEnd.of {w w' : World} {m' : List Int} {k p s c b t x u : Int} {A : Option Addr} {n c' : Nat} (hn : m'.length = n) (h : Cells w' (.slice A n c') m') (hb : Below w.heap.size w w') (hnw : ∀ y, (Value.slice A n c').ownBlock = some y → w.heap.size ≤ y) : StepEnd w m' ⟨k, p, s, c, b, t, x, u⟩ (.returned (.tuple #[.slice A n c', mvv k p s c b t x u])) w' := by
  subst hn
  obtain ⟨A2, c2, e, h1, h2, -⟩ := id h
  injection e with e1 e2 e3
  subst e3
  exact ⟨A, c', rfl, h1, by unfold maxLen at h2; omega, h, hb, hnw⟩

set_option maxRecDepth 100000 in
set_option maxHeartbeats 4000000 in
theorem step_stop (k p s c b t x u : Int) (v : Value) (m : List Int) (w : World) (h : Cells w v m) (hbig : m.length * 8 ≤ 140737488351232) (hst : haltF k p u = true) :
    Calls Try.prog 6 #[v, mvv k p s c b t x u] w (StepEnd w m ⟨k, p, s, c, b, t, x, u⟩) := by
  obtain ⟨w1, e1, hb1, hs1, M1, R1⟩ := box_two w k p s c b t x u
  have HE := hide e1
  have HM := hide (h.below hb1)
  obtain ⟨a0, a1, a2, a3, a4, a5, a6, a7⟩ := M1.cells
  have HU := hide hst
  have HS1 := hide hs1
  have HMB := hide M1
  have HRB := hide R1
  clear e1 h hst hs1 M1 R1
  go_enter Try.func6, Try.ntmps6
  go_wp2_with fail
  rw [HE.out]
  (with_reducible refine (stops_any k p s c b t x u _).mono ?_)
  rintro e w2 ⟨rfl, hb2⟩
  rw [HU.out]
  have HB2 := hide (bcall hb1 hb2)
  clear a0 a1 a2 a3 a4 a5 a6 a7
  have HM2 := hide (HMB.out.below hb2)
  have HR2 := hide (HRB.out.below hb2)
  have HC2 := hide (HM.out.below hb2)
  have HC2d := hide (cells_drew HC2.out)
  obtain ⟨a0, a1, a2, a3, a4, a5, a6, a7⟩ := HM2.out.cells
  obtain ⟨z0, z1, z2, z3, z4, z5, z6, z7⟩ := HR2.out.cells
  obtain ⟨f0, f1, f2, f3, f4, f5, f6, f7⟩ := HR2.out.unfs
  clear hb2 hb1
  have fin : ∀ {A' : Option Addr} {c' : Nat} {w3 : World}, (∀ x, (Value.slice A' m.length c').ownBlock = some x → w2.heap.size ≤ x) → Cells w3 (.slice A' m.length c') m → Below w2.heap.size w2 w3 → ∀ ws, Below (w.heap.size + 1) w3 ws → (∀ i, w.heap.size + 1 < i → ws.heap[i]? = w3.heap[i]?) → StepEnd w m ⟨k, p, s, c, b, t, x, u⟩ (.returned (.tuple #[.slice A' m.length c', mvv k p s c b t x u])) ws := by
    intro A' c' w3 hne hC hb3 ws hws hk
    refine StepEnd.of rfl (cells_block hC hws.size fun _ y hy _ => hk y ?_) ((bcall HB2.out hb3).trans (hws.mono (by omega))) (fun y hy => Nat.le_trans HB2.out.size (hne y hy))
    have := hne y hy
    have := HR2.out.lt
    omega
  go_wp2
  go_region_with (first
    | (go_at_call 25; (with_reducible refine (Clone_cells _ m _ HC2d.out hbig).mono ?_); rintro e w3 ⟨v', rfl, hown, hb3d⟩; have hb3 := undrew hb3d; clear a0 a1 a2 a3 a4 a5 a6 a7 z0 z1 z2 z3 z4 z5 z6 z7 f0 f1 f2 f3 f4 f5 f6 f7; obtain ⟨a0, a1, a2, a3, a4, a5, a6, a7⟩ := (HM2.out.below hb3).cells; obtain ⟨z0, z1, z2, z3, z4, z5, z6, z7⟩ := (HR2.out.below hb3).cells; obtain ⟨f0, f1, f2, f3, f4, f5, f6, f7⟩ := (HR2.out.below hb3).unfs; obtain ⟨A', c', rfl, hd1, hd2⟩ := own_form hown; have HO := hide hown; have HB3 := hide hb3; clear hown hb3 hb3d))
  all_goals
    go_wp2
    refine bodyPost_ret (v := .tuple #[.slice A' m.length c', mvv k p s c b t x u]) (by simp [results, Try.results6, go_sem, z0, z1, z2, z3, z4, z5, z6, z7]) rfl ?_
    refine fin (fun y hy => ?_) (OwnC.cells HO.out) HB3.out _ (below_set8 (Below.refl _ _) (Nat.le_refl _) _ _ _ _ _ _ _ _) (fun i hi => ?_)
    · exact (HO.out.lt y hy).1
    · simp only [World.setCell, Array.getElem?_modify]
      rw [if_neg (by omega), if_neg (by omega), if_neg (by omega), if_neg (by omega), if_neg (by omega), if_neg (by omega), if_neg (by omega), if_neg (by omega)]
end Go.Proofs.Ytpffknlbffnafaa.ch
