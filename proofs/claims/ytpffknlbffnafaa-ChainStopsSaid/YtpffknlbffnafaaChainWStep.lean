/- Layer chain: the law's world goes on by a byte. -/
import Derived.Test.YtpffknlbffnafaaChainWorld
import Derived.Deep.Cut
import Derived.Deep.RegionLaw
namespace Go.Proofs.Ytpffknlbffnafaa.ch
open Go.RowKit

theorem set_get {α : Type} {l : List α} {n : Nat} {x : α} (h : l[n]? = some x) : l.set n x = l := by
  obtain ⟨h1, rfl⟩ := List.getElem?_eq_some_iff.1 h
  exact List.set_getElem_self h1
theorem own3 {w : World} {B g gh : Nat} {A : Option Addr} {n c N : Nat} (h : B < w.heap.size ∧ g < w.heap.size ∧ gh < w.heap.size) (hs : w.heap.size ≤ N) (hn : ∀ y, (Value.slice A n c).ownBlock = some y → N ≤ y) : ∀ y, (Value.slice A n c).ownBlock = some y → y ≠ B ∧ y ≠ g ∧ y ≠ gh := fun y hy => by
  have := hn y hy
  omega
theorem who_setn {l : List Cm} {n : Nat} (hl : l.length = 5) (hn : n < 5) (x : Cm) : (l.set n x)[n]? = some x := by rw [List.getElem?_set_self (by omega)]
theorem who_setset (l : List Cm) (n : Nat) (x y : Cm) : (l.set n x).set n y = l.set n y := by rw [List.set_set]
theorem has_setn {l : List Nat} {n : Nat} (hl : l.length = 5) (hn : n < 5) (x : Nat) : (l.set n x)[n]? = some x := by rw [List.getElem?_set_self (by omega)]
theorem world_cells {w : World} {B g gh ct cg : Nat} {d : Cw} {vM : Value} (h : Wat w B g gh ct cg d vM) : w.cell? ⟨B, 0, none⟩ = some vM ∧ w.cell? ⟨B, 1, none⟩ = some (.slice (some ⟨g, 0, none⟩) 5 ct) ∧ w.cell? ⟨B, 2, none⟩ = some (.slice (some ⟨gh, 0, none⟩) 5 cg) ∧ w.cell? ⟨B, 3, none⟩ = some (.int .i64 (d.swap : Int)) := ⟨h.cell 0, h.cell 1, h.cell 2, h.cell 3⟩

set_option maxRecDepth 100000 in
set_option maxHeartbeats 8000000 in
theorem wstep_any (B g gh ct cg : Nat) (d : Cw) (vM : Value) (w : World) (h : Wat w B g gh ct cg d vM) (bb : Int) (n j : Nat) (hb0 : 0 ≤ bb ∧ bb ≤ 255) (hn : bb % 5 = n) (hj : bb / 5 % 2 = j) (hbig : d.m.length * 8 ≤ 140737488351232) (hsw : d.swap ≤ 100000)
    (ko po so co bo to_ xo uo : Int) (hwho : d.who[n]? = some ⟨ko, po, so, co, bo, to_, xo, uo⟩) (hh : Nat) (hhas : d.has[n]? = some hh) (hhb : hh ≤ 1000)
    (k p s c b t x : Int) (hbeg : (if uo ≠ 0 then startC (if 0 < hh then 1 else 2) (j : Int) 1 (hh : Int) else ⟨ko, po, so, co, bo, to_, xo, uo⟩) = ⟨k, p, s, c, b, t, x, 0⟩)
    (m1 : List Int) (k1 p1 s1 c1 b1 t1 x1 u1 : Int) (hr : cstepF d.m ⟨k, p, s, c, b, t, x, 0⟩ = (m1, ⟨k1, p1, s1, c1, b1, t1, x1, u1⟩)) (h1 : Nat) (ht1 : u1 = 1 → t1 = (h1 : Int)) :
    Calls Try.prog 22 #[pt B, .int .u8 bb] w (WPost w B g gh ct cg { m := m1, who := d.who.set n ⟨k1, p1, s1, c1, b1, t1, x1, u1⟩, has := if u1 = 1 then d.has.set n (if k1 = 1 then 0 else h1) else d.has, swap := d.swap + if u1 = 1 then 1 else 0 }) := by
  have hl1 : m1.length = d.m.length := by
    have e := cstep_len d.m ⟨k, p, s, c, b, t, x, 0⟩
    rw [hr] at e
    exact e
  obtain ⟨L, hL⟩ : ∃ L, d.m.length = L := ⟨_, rfl⟩
  obtain ⟨A0, c0_, rfl, hc01, hc02⟩ := cells_form' h.mem
  rw [hL] at hl1 hc01
  have hn5 : n < 5 := by omega
  have hn5i : (n : Int) < 5 := by omega
  have hm5 : bb.tmod 5 = (n : Int) := by rw [Int.tmod_eq_emod_of_nonneg hb0.1]; exact hn
  have hd5 : (bb.tdiv 5).tmod 2 = (j : Int) := by rw [Int.tdiv_eq_ediv_of_nonneg hb0.1, Int.tmod_eq_emod_of_nonneg (by omega)]; exact hj
  have hj9 : IntKind.i64.wrap ((IntKind.u8.wrap (bb.tdiv 5)).tmod 2) = (j : Int) := by
    have e1 : bb.tdiv 5 = bb / 5 := Int.tdiv_eq_ediv_of_nonneg hb0.1
    have e2 : IntKind.u8.wrap (bb.tdiv 5) = bb / 5 := by rw [e1]; simp [IntKind.wrap, IntKind.bits, IntKind.signed]; omega
    rw [e2, Int.tmod_eq_emod_of_nonneg (by omega), hj, wrap_s, s64_small (by omega) (by omega)]
  have HL1 := hide hl1
  have HSR := hide hr
  have HW := hide h
  rw [hL] at HW
  have HWHO := hide hwho
  have HHAS := hide hhas
  have HBIG := hide (show d.m.length * 8 ≤ 140737488351232 from hbig)
  have HSW := hide hsw
  have HBEG := hide hbeg
  have HT1 := hide ht1
  have HLB := hide (And.intro h.ltB (And.intro h.ltG h.ltH))
  have hneT := h.neT
  have hneT' := h.neT.symm
  have hneH := h.neH
  have hneH' := h.neH.symm
  have hneG := h.neG
  have hneG' := h.neG.symm
  have H5 := hide h.th5
  have H5a := hide h.ha5
  have hct := (own_form h.thr)
  obtain ⟨A_, c_, e_, hct1, hct2⟩ := hct
  injection e_ with e1_ e2_ e3_
  subst e3_
  unfold maxLen at hct2
  have hcg := (own_form h.has)
  obtain ⟨A_', c_', e_', hcg1, hcg2⟩ := hcg
  injection e_' with e1_' e2_' e3_'
  subst e3_'
  unfold maxLen at hcg2
  obtain ⟨hb1, hb2⟩ := hb0
  obtain ⟨y0, y1, y2, y3⟩ := world_cells HW.out
  obtain ⟨a0, a1, a2, a3, a4, a5, a6, a7⟩ := th_cell HW.out HWHO.out
  have q0 := ha_cell HW.out HHAS.out
  clear h hr hL hl1 hwho hhas hbig hsw hbeg ht1 e1_ e2_ e1_' e2_'
  obtain ⟨RR, hRR⟩ : ∃ RR : Cw, { m := m1, who := d.who.set n ⟨k1, p1, s1, c1, b1, t1, x1, u1⟩, has := if u1 = 1 then d.has.set n (if k1 = 1 then 0 else h1) else d.has, swap := d.swap + if u1 = 1 then 1 else 0 } = RR := ⟨_, rfl⟩
  have HRR := hide hRR
  rw [hRR]
  clear hRR
  go_enter Try.func22, Try.ntmps22
  go_upto_if 17 with (fail)
  go_cut [] from 5 (fun wr => Hid (Wat wr B g gh ct cg { d with who := d.who.set n ⟨k, p, s, c, b, t, x, 0⟩ } (.slice A0 L c0_) ∧ Fr w B g gh wr))
  case first =>
    by_cases hu : uo = 0
    · have HF := hide (show Wat w B g gh ct cg { d with who := d.who.set n ⟨k, p, s, c, b, t, x, 0⟩ } (.slice A0 L c0_) ∧ Fr w B g gh w by
        have e := HBEG.out
        rw [if_neg (by simp [hu])] at e
        have e2 : d.who.set n ⟨k, p, s, c, b, t, x, 0⟩ = d.who := by rw [← e]; exact set_get HWHO.out
        rw [e2]
        exact ⟨HW.out, Fr.refl⟩)
      subst hu
      go_wp2_with fail
      go_meet
      exact HF
    · have qu : (uo != 0) = true := by rw [bne_iff_ne]; exact hu
      have HBE := hide (show startC (if 0 < hh then 1 else 2) (j : Int) 1 (hh : Int) = ⟨k, p, s, c, b, t, x, 0⟩ by have e := HBEG.out; rw [if_pos hu] at e; exact e)
      clear hu
      by_cases hp : 0 < hh
      · have hK := HBE.out
        rw [if_pos hp] at hK
        simp [startC] at hK
        obtain ⟨rfl, rfl, rfl, rfl, rfl, rfl, rfl, -⟩ := hK
        clear HBE HBEG
        go_upto_region 5 with (fail)
        go_region_law (first
          | (go_simp; go_at_call 19; (with_reducible refine (Start_any 1 j 1 hh _).mono ?_); rintro e w7 ⟨rfl, hb7d⟩; have hb7 := undrew hb7d; have HW7 := hide (HW.out.below hb7); have HF2 := hide (show Wat (setT w7 g (n * 8) 1 0 j 1 0 hh 0 0) B g gh ct cg { d with who := d.who.set n ⟨1, 0, j, 1, 0, hh, 0, 0⟩ } (.slice A0 L c0_) ∧ Fr w B g gh (setT w7 g (n * 8) 1 0 j 1 0 hh 0 0) from ⟨HW7.out.putT hn5 _ _ _ _ _ _ _ _, (Fr.of_below hb7).setT _ _ _ _ _ _ _ _ _⟩); clear y0 y1 y2 y3 a0 a1 a2 a3 a4 a5 a6 a7 q0; obtain ⟨y0, y1, y2, y3⟩ := world_cells HW7.out; obtain ⟨a0, a1, a2, a3, a4, a5, a6, a7⟩ := th_cell HW7.out HWHO.out; have q0 := ha_cell HW7.out HHAS.out; have fz := th_unf HW7.out))
        all_goals
          go_wp2_with fail
          go_meet
        all_goals
          exact HF2
      · obtain rfl : hh = 0 := by omega
        have hK := HBE.out
        rw [if_neg hp] at hK
        simp [startC] at hK
        obtain ⟨rfl, rfl, rfl, rfl, rfl, rfl, rfl, -⟩ := hK
        clear HBE HBEG
        go_upto_region 5 with (fail)
        go_region_law (first
          | (go_simp; go_at_call 19; (with_reducible refine (Start_any 2 j 1 0 _).mono ?_); rintro e w7 ⟨rfl, hb7d⟩; have hb7 := undrew hb7d; have HW7 := hide (HW.out.below hb7); have HF2 := hide (show Wat (setT w7 g (n * 8) 2 0 j 1 0 0 0 0) B g gh ct cg { d with who := d.who.set n ⟨2, 0, j, 1, 0, 0, 0, 0⟩ } (.slice A0 L c0_) ∧ Fr w B g gh (setT w7 g (n * 8) 2 0 j 1 0 0 0 0) from ⟨HW7.out.putT hn5 _ _ _ _ _ _ _ _, (Fr.of_below hb7).setT _ _ _ _ _ _ _ _ _⟩); clear y0 y1 y2 y3 a0 a1 a2 a3 a4 a5 a6 a7 q0; obtain ⟨y0, y1, y2, y3⟩ := world_cells HW7.out; obtain ⟨a0, a1, a2, a3, a4, a5, a6, a7⟩ := th_cell HW7.out HWHO.out; have q0 := ha_cell HW7.out HHAS.out; have fz := th_unf HW7.out))
        all_goals
          go_wp2_with fail
          go_meet
        all_goals
          exact HF2
  case rest =>
    have HW0 := hide hcut.out.1
    have HFR0 := hide hcut.out.2
    clear hcut y0 y1 y2 y3 a0 a1 a2 a3 a4 a5 a6 a7 q0 HW HWHO
    have HWHO := hide (who_setn H5.out hn5 ⟨k, p, s, c, b, t, x, 0⟩)
    have HC := hide (cells_drew HW0.out.mem)
    obtain ⟨y0, y1, y2, y3⟩ := world_cells HW0.out
    obtain ⟨a0, a1, a2, a3, a4, a5, a6, a7⟩ := th_cell HW0.out HWHO.out
    go_upto_region 6 with (fail)
    go_cut [] from 45 (fun wr => ∃ (A1 : Option Addr) (c1_ : Nat), Hid (Wat wr B g gh ct cg { d with m := m1, who := d.who.set n ⟨k1, p1, s1, c1, b1, t1, x1, u1⟩ } (.slice A1 L c1_) ∧ Fr w B g gh wr))
    case first =>
      go_region_law (first
        | (go_simp; go_at_call 6; (with_reducible refine (Step_c k p s c b t x 0 _ d.m _ HC.out HBIG.out m1 k1 p1 s1 c1 b1 t1 x1 u1 HSR.out L HL1.out).mono ?_); rintro e w5 ⟨A1, c1_, rfl, ⟨hg1, hg2⟩, hC, hbd, hnw⟩; have hb5 := undrew hbd; have HW5 := hide (HW0.out.below hb5); have HF := hide (show Wat (setT (w5.setCell ⟨B, 0, none⟩ (.slice A1 L c1_)) g (n * 8) k1 p1 s1 c1 b1 t1 x1 u1) B g gh ct cg { d with m := m1, who := d.who.set n ⟨k1, p1, s1, c1, b1, t1, x1, u1⟩ } (.slice A1 L c1_) ∧ Fr w B g gh (setT (w5.setCell ⟨B, 0, none⟩ (.slice A1 L c1_)) g (n * 8) k1 p1 s1 c1 b1 t1 x1 u1) from ⟨by have hz := (HW5.out.putM hC (own3 (And.intro HW0.out.ltB (And.intro HW0.out.ltG HW0.out.ltH)) (Nat.le_refl _) hnw)).putT hn5 k1 p1 s1 c1 b1 t1 x1 u1; rw [who_setset] at hz; exact hz, ((HFR0.out.trans (Fr.of_below hb5)).setB 0 _).setT (n * 8) _ _ _ _ _ _ _ _⟩); clear hC hbd hb5 hnw y0 y1 y2 y3 a0 a1 a2 a3 a4 a5 a6 a7; obtain ⟨y0, y1, y2, y3⟩ := world_cells HW5.out; obtain ⟨a0, a1, a2, a3, a4, a5, a6, a7⟩ := th_cell HW5.out HWHO.out; have f0 := HW5.out.unf 0; have fz := th_unf HW5.out))
      all_goals
        go_wp2_with fail
        go_meet
      all_goals
        exact ⟨A1, c1_, HF⟩
    case rest =>
      obtain ⟨A1, c1_, HF⟩ := hcut
      have HW1 := hide HF.out.1
      have HFR := hide HF.out.2
      clear y0 y1 y2 y3 a0 a1 a2 a3 a4 a5 a6 a7 HF HW0 HFR0 HC HWHO
      have HWHO := hide (who_setn H5.out hn5 ⟨k1, p1, s1, c1, b1, t1, x1, u1⟩)
      by_cases hu : u1 = 1
      · obtain rfl : t1 = (h1 : Int) := HT1.out hu
        subst hu
        obtain ⟨y0, y1, y2, y3⟩ := world_cells HW1.out
        obtain ⟨a0, a1, a2, a3, a4, a5, a6, a7⟩ := th_cell HW1.out HWHO.out
        have f3 := HW1.out.unf 3
        have fh := ha_unf HW1.out
        have q0 := ha_cell HW1.out HHAS.out
        have hsw := HSW.out
        have HW2 := hide (show Wat (wc.setCell ⟨B, 3, none⟩ (.int .i64 ((d.swap : Int) + 1))) B g gh ct cg { d with m := m1, who := d.who.set n ⟨k1, p1, s1, c1, b1, (h1 : Int), x1, 1⟩, swap := d.swap + 1 } (.slice A1 L c1_) from HW1.out.putS (d.swap + 1))
        have HFR2 := hide (HFR.out.setB 3 (.int .i64 ((d.swap : Int) + 1)))
        by_cases hk : k1 = 1
        · have qk : (k1 == 1) = true := by rw [beq_iff_eq]; exact hk
          have HER := hide (show RR = { d with m := m1, who := d.who.set n ⟨k1, p1, s1, c1, b1, (h1 : Int), x1, 1⟩, has := d.has.set n 0, swap := d.swap + 1 } by rw [← HRR.out, if_pos rfl, if_pos rfl, if_pos hk])
          clear hk
          go_upto_region 9 with (fail)
          go_region
          all_goals
            have HRES := hide (show WPost w B g gh ct cg { d with m := m1, who := d.who.set n ⟨k1, p1, s1, c1, b1, (h1 : Int), x1, 1⟩, has := d.has.set n 0, swap := d.swap + 1 } (.returned (.tuple #[])) (((wc.setCell ⟨B, 3, none⟩ (.int .i64 ((d.swap : Int) + 1))).drew.setCell ⟨gh, n, none⟩ (.int .i64 (h1 : Int))).setCell ⟨gh, n, none⟩ (.int .i64 0)) from ⟨_, rfl, by have hz := (HW2.out.drew.putH hn5 h1).putH hn5 0; rw [show (d.has.set n h1).set n 0 = d.has.set n 0 from List.set_set ..] at hz; exact hz, ((HFR2.out.drew.setH n _).setH n _)⟩)
            go_wp2
            go_end0
            rw [HER.out]
            exact HRES.out
        · have qk : (k1 == 1) = false := by rw [beq_eq_false_iff_ne]; exact hk
          have HER := hide (show RR = { d with m := m1, who := d.who.set n ⟨k1, p1, s1, c1, b1, (h1 : Int), x1, 1⟩, has := d.has.set n h1, swap := d.swap + 1 } by rw [← HRR.out, if_pos rfl, if_pos rfl, if_neg hk])
          clear hk
          go_upto_region 9 with (fail)
          go_region
          all_goals
            have HRES := hide (show WPost w B g gh ct cg { d with m := m1, who := d.who.set n ⟨k1, p1, s1, c1, b1, (h1 : Int), x1, 1⟩, has := d.has.set n h1, swap := d.swap + 1 } (.returned (.tuple #[])) ((wc.setCell ⟨B, 3, none⟩ (.int .i64 ((d.swap : Int) + 1))).drew.setCell ⟨gh, n, none⟩ (.int .i64 (h1 : Int))) from ⟨_, rfl, HW2.out.drew.putH hn5 h1, HFR2.out.drew.setH n _⟩)
            go_wp2
            go_end0
            rw [HER.out]
            exact HRES.out
      · have qu : (u1 == 1) = false := by rw [beq_eq_false_iff_ne]; exact hu
        obtain ⟨y0, y1, y2, y3⟩ := world_cells HW1.out
        obtain ⟨a0, a1, a2, a3, a4, a5, a6, a7⟩ := th_cell HW1.out HWHO.out
        have HER := hide (show RR = { d with m := m1, who := d.who.set n ⟨k1, p1, s1, c1, b1, t1, x1, u1⟩ } by rw [← HRR.out, if_neg hu, if_neg hu]; rfl)
        clear hu
        have HRES := hide (show WPost w B g gh ct cg { d with m := m1, who := d.who.set n ⟨k1, p1, s1, c1, b1, t1, x1, u1⟩ } (.returned (.tuple #[])) wc from ⟨_, rfl, HW1.out, HFR.out⟩)
        go_wp2
        go_end0
        rw [HER.out]
        exact HRES.out
end Go.Proofs.Ytpffknlbffnafaa.ch
