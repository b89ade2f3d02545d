/- Layer chain: what the laws over a schedule share. -/
import Derived.Test.YtpffknlbffnafaaChainStartA
import Derived.Test.YtpffknlbffnafaaChainWStep
import Derived.Test.YtpffknlbffnafaaMemOpen
namespace Go.Proofs.Ytpffknlbffnafaa.ch
open Go.RowKit

theorem step_x {m : List Int} {V : Nat → Nat} {hk : Nat} {c : Cm} (h : MC m V hk c) (h0 : c.out = 0) : 0 ≤ (cstepF m c).2.x := by
  have hn : ∀ z : Int, 0 ≤ nodeF z := fun z => by unfold nodeF; omega
  cases h with
  | idle _ hne => exact absurd h0 hne
  | push0 j h0 y hj hp => simp [cstepF, cpushF]
  | push1 j v n y hj hp hok => simp [cstepF, cpushF]
  | push2 j v n y hj hp hok hn => simp [cstepF, cpushF]
  | pop0 j h0 y hj hp => simp [cstepF, cpopF]
  | pop1 j v n y hj hp hok h1 => simp [cstepF, cpopF]
  | pop2 j v n y hj hp hok h1 hy =>
    simp only [cstepF, cpopF]
    simp
    split
    · exact hn _
    · exact Int.le_refl _
theorem good_begin {hi : Nat} {w : Cw} (h : CGood hi w) (b : Nat) : ∃ V, MC w.m V (w.has.getD (b % 5) 0) (beginC b w) ∧ (beginC b w).out = 0 ∧ w.who[b % 5]? = some (w.who.getD (b % 5) (startC 0 0 0 0)) ∧ w.has[b % 5]? = some (w.has.getD (b % 5) 0) ∧ w.has.getD (b % 5) 0 ≤ 8 ∧ w.m.length = 10 ∧ w.swap ≤ 2 * hi := by
  obtain ⟨V, L, hci, hsw⟩ := h
  have hk : b % 5 < 5 := Nat.mod_lt _ (by decide)
  have hwl := hci.wl
  have hhl := hci.hl
  have hxg : w.has[b % 5]? = some (w.has.getD (b % 5) 0) := by rw [List.getD_eq_getElem?_getD, List.getElem?_eq_getElem (by omega)]; rfl
  have hcg : w.who[b % 5]? = some (w.who.getD (b % 5) (startC 0 0 0 0)) := by rw [List.getD_eq_getElem?_getD, List.getElem?_eq_getElem (by omega)]; rfl
  have hmc := hci.mc _ _ _ hcg hxg
  have h8 : w.has.getD (b % 5) 0 ≤ 8 := by
    by_cases h1 : 1 ≤ w.has.getD (b % 5) 0
    · exact (hci.alone hxg h1).1
    · omega
  have hv0 := hci.two.vb 0 (by decide)
  have hv1 := hci.two.vb 1 (by decide)
  refine ⟨V, ?_, ?_, hcg, hxg, h8, hci.two.len, by omega⟩
  · unfold beginC
    by_cases ho : (w.who.getD (b % 5) (startC 0 0 0 0)).out ≠ 0
    · rw [if_pos ho]
      by_cases hp : 0 < w.has.getD (b % 5) 0
      · rw [if_pos hp]
        exact .push0 (b / 5 % 2) 0 0 (Nat.mod_lt _ (by decide)) hp
      · rw [if_neg hp]
        have h0 : w.has.getD (b % 5) 0 = 0 := by omega
        rw [h0]
        exact .pop0 (b / 5 % 2) 0 0 (Nat.mod_lt _ (by decide)) rfl
    · rw [if_neg ho]; exact hmc
  · unfold beginC
    by_cases ho : (w.who.getD (b % 5) (startC 0 0 0 0)).out ≠ 0
    · rw [if_pos ho]; rfl
    · rw [if_neg ho]; simpa using ho
theorem wstep_good (B g gh ct cg : Nat) (d : Cw) (vM : Value) (w : World) (h : Wat w B g gh ct cg d vM) (X : Nat) (hg : CGood X d) (hX : X ≤ 1000) (bb : Int) (hb : 0 ≤ bb ∧ bb ≤ 255) (d' : Cw) (hd' : cstepW bb.toNat d = d') :
    Calls Try.prog 22 #[pt B, .int .u8 bb] w (WPost w B g gh ct cg d') := by
  obtain ⟨V, hmc, hout, hwho, hhas, h8, hlen, hsw⟩ := good_begin hg bb.toNat
  have hx := step_x hmc hout
  obtain ⟨r, hr⟩ : ∃ r, cstepF d.m (beginC bb.toNat d) = r := ⟨_, rfl⟩
  rw [hr] at hx
  unfold cstepW at hd'
  simp only [hr] at hd'
  obtain ⟨m1, ⟨k1, p1, s1, c1, b1, t1, x1, u1⟩⟩ := r
  obtain ⟨cb, hcb⟩ : ∃ cb, beginC bb.toNat d = cb := ⟨_, rfl⟩
  rw [hcb] at hr hout
  obtain ⟨k, p, s, c, b, t, x, u⟩ := cb
  simp only at hout hx hd'
  subst hout
  obtain ⟨co, hco⟩ : ∃ co, d.who.getD (bb.toNat % 5) (startC 0 0 0 0) = co := ⟨_, rfl⟩
  unfold beginC at hcb
  rw [hco] at hwho hcb
  obtain ⟨ko, po, so, co_, bo, to_, xo, uo⟩ := co
  have ht : u1 = 1 → t1 = (t1.toNat : Int) := fun _ => by omega
  have := wstep_any B g gh ct cg d vM w h bb (bb.toNat % 5) (bb.toNat / 5 % 2) hb (by omega) (by omega) (by rw [hlen]; decide) (by omega) ko po so co_ bo to_ xo uo hwho (d.has.getD (bb.toNat % 5) 0) hhas (by omega) k p s c b t x hcb m1 k1 p1 s1 c1 b1 t1 x1 u1 hr t1.toNat ht
  rw [← hd']
  exact this
/-- the law's world, as it begins -/
theorem start_wat {w w3 : World} {c g gh ct cg : Nat} {A : Option Addr} (hC : Cells w (.slice A 10 c) startCw.m) (hT : w.ownsRow 0 26 8 (.slice (some ⟨g, 0, none⟩) 5 ct) 5 (startCw.who.flatMap mc)) (hH : w.ownsRow 0 3 1 (.slice (some ⟨gh, 0, none⟩) 5 cg) 5 (startCw.has.flatMap nc)) (hne : ∀ y, (Value.slice A 10 c).ownBlock = some y → y ≠ g ∧ y ≠ gh) (hgg : g ≠ gh)
    (e3 : w.alloc (.cells #[.slice A 10 c, .slice (some ⟨g, 0, none⟩) 5 ct, .slice (some ⟨gh, 0, none⟩) 5 cg, .int .i64 0] 49) = w3) : Wat w3 w.heap.size g gh ct cg startCw (.slice A 10 c) := by
  subst e3
  have hb := bal w (.cells #[.slice A 10 c, .slice (some ⟨g, 0, none⟩) 5 ct, .slice (some ⟨gh, 0, none⟩) 5 cg, .int .i64 0] 49)
  refine ⟨heap_alloc_new w _, hC.below hb, own_below hT hb, own_below hH hb, fun y hy => ?_, ?_, ?_, hgg, rfl, rfl⟩
  · obtain ⟨b0, o0, e0, hlt, -⟩ := cells_at hC (k := 0) (by decide)
    have h1 := hy
    rw [e0] at h1
    simp only [Value.ownBlock, Option.some.injEq] at h1
    exact ⟨by omega, (hne y hy).1, (hne y hy).2⟩
  · have := (hT.lt g rfl).2; omega
  · have := (hH.lt gh rfl).2; omega
/-- where the schedule has come -/
structure SpAt (w3 : World) (B g gh ct cg : Nat) (X : Nat) (d : Cw) (vM : Value) (wr : World) : Prop where
  at_ : Wat wr B g gh ct cg d vM
  fr : Fr w3 B g gh wr
  good : CGood X d
theorem bytes_at {w : World} {A : Option Addr} {n c k : Nat} {l : List Int} (h : Bytes w (.slice A n c) l) (hk : k < l.length) :
    ∃ b off, A = some ⟨b, off, none⟩ ∧ w.cell? ⟨b, off + k, none⟩ = some (.int .u8 l[k]) := by
  obtain ⟨A', c', e, h1, h2, h3⟩ := h
  injection e with e1 e2 e3
  subst e1
  obtain ⟨b, off, rfl, hb, hc⟩ := h3 (by omega)
  refine ⟨b, off, rfl, ?_⟩
  have := hc k l[k] (List.getElem?_eq_getElem hk) 0 (.int .u8 l[k]) rfl
  simpa using this
end Go.Proofs.Ytpffknlbffnafaa.ch
