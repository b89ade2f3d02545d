/- Layer deque: the law's world: the owner goes on. -/
import Derived.Test.YthjdjkcdlknhbaaDequeWorldB
namespace Go.Proofs.Ythjdjkcdlknhbaa
open Go.RowKit

set_option maxRecDepth 100000 in
set_option maxHeartbeats 40000000 in
theorem own_any (B g ct : Nat) (cap : Int) (d : Dw) (vM vP vG : Value) (w : World) (h : Wat w B g ct cap d vM vP vG) (bb : Int) (hb0 : 0 ≤ bb ∧ bb ≤ 255) (hb5 : 3 ≤ bb % 5) (k p s c b t x : Int) (nx : Int) (hbeg : beginF cap (decide (bb / 5 % 2 = 1)) d = (⟨k, p, s, c, b, t, x, 0⟩, nx)) (hU : WatU d) (hI : I6 cap) (hnx : 0 ≤ d.next ∧ d.next ≤ 1000000)
    (m1 : List Int) (k1 p1 s1 c1 b1 t1 x1 u1 : Int) (hr : stepF d.m ⟨k, p, s, c, b, t, x, 0⟩ = (m1, ⟨k1, p1, s1, c1, b1, t1, x1, u1⟩)) :
    Calls Try.prog 21 #[pt B, .int .u8 bb] w (WPost w B g ct cap { d with m := m1, owner := ⟨k1, p1, s1, c1, b1, t1, x1, u1⟩, next := nx, pushed := if u1 = 1 ∧ k1 = 1 then addB d.pushed x1 1 else d.pushed, got := if u1 = 1 ∧ k1 = 2 then addB d.got x1 1 else d.got }) := by
  have hd : McU ⟨k, p, s, c, b, t, x, 0⟩ := by
    have e : (beginF cap (decide (bb / 5 % 2 = 1)) d).1 = ⟨k, p, s, c, b, t, x, 0⟩ := by rw [hbeg]
    rw [← e]
    unfold beginF
    split
    · split
      · exact start_U (by unfold I6; omega) (by unfold I6; omega) hI (by unfold I6; omega)
      · exact start_U (by unfold I6; omega) (by unfold I6; omega) hI (by unfold I6; omega)
    · exact hU.o
  have hS := step_U hU.m hd
  rw [hr] at hS
  have hl1 : m1.length = d.m.length := hS.len
  have HX1 := hide (show Kw x1 from hS.mac.x)
  obtain ⟨L, hL⟩ : ∃ L, d.m.length = L := ⟨_, rfl⟩
  obtain ⟨A0, c0_, rfl, hc01, hc02⟩ := cells_form' h.mem
  obtain ⟨Ap, cp, rfl, hp1, hp2⟩ := ints_form' h.pus
  obtain ⟨Ag, cg, rfl, hg1_, hg2_⟩ := ints_form' h.got
  obtain ⟨NP, hNP⟩ : ∃ NP, d.pushed.length = NP := ⟨_, rfl⟩
  obtain ⟨NG, hNG⟩ : ∃ NG, d.got.length = NG := ⟨_, rfl⟩
  rw [hL] at hl1 hc01
  rw [hNP] at hp1
  rw [hNG] at hg1_
  have HL1 := hide hl1
  have HD := hide hd
  have HSR := hide hr
  have HU := hide hU
  have HW := hide h
  rw [hL, hNP, hNG] at HW
  have HAP := hide (show (addB d.pushed x1 1).length = NP + 1 by rw [add_one_len, hNP])
  have HAG := hide (show (addB d.got x1 1).length = NG + 1 by rw [add_one_len, hNG])
  have HLL := hide hL
  have HPL := hide hNP
  have HGL := hide hNG
  have HBEG := hide hbeg
  have HLB := hide (And.intro h.ltB h.ltG)
  have hneT := h.neT
  have hneT' := h.neT.symm
  obtain ⟨hb1, hb2⟩ := hb0
  have hlt3 : ¬ bb % 5 < 3 := by omega
  have d3 : decide (bb % 5 < 3) = false := decide_eq_false hlt3
  obtain ⟨oo, hoo⟩ : ∃ oo, d.owner = oo := ⟨_, rfl⟩
  obtain ⟨ko, po, so, co, bo, to_, xo, uo⟩ := oo
  have HO := hide hoo
  obtain ⟨nx0, hnx0⟩ : ∃ nx0, d.next = nx0 := ⟨_, rfl⟩
  have HN0 := hide hnx0
  rw [hnx0] at hnx
  have hnxa := hnx.1
  have hnxb := hnx.2
  have y1 : w.cell? ⟨B, 1, none⟩ = some (.int .i64 cap) := HW.out.cell 1
  have y13 : w.cell? ⟨B, 13, none⟩ = some (.int .i64 nx0) := by rw [← hnx0]; exact HW.out.cell 13
  obtain ⟨a2, a3, a4, a5, a6, a7, a8, a9⟩ := own_cells HW.out HO.out
  clear h hr hd hL hS hl1 hU hNP hNG hbeg hoo hnx0 hnx hI
  obtain ⟨RR, hRR⟩ : ∃ RR, { d with m := m1, owner := ⟨k1, p1, s1, c1, b1, t1, x1, u1⟩, next := nx, pushed := if u1 = 1 ∧ k1 = 1 then addB d.pushed x1 1 else d.pushed, got := if u1 = 1 ∧ k1 = 2 then addB d.got x1 1 else d.got } = RR := ⟨_, rfl⟩
  have HRR := hide hRR
  rw [hRR]
  clear hRR
  go_enter Try.func21, Try.ntmps21
  go_upto_region 3 with (fail)
  go_upto_if 19 with (fail)
  go_cut [] from 5 (fun wr => Hid (Wat wr B g ct cap { d with owner := ⟨k, p, s, c, b, t, x, 0⟩, next := nx } (.slice A0 L c0_) (.slice Ap NP cp) (.slice Ag NG cg) ∧ Fr w B g wr))
  case first =>
    by_cases hu : uo = 0
    · have HF := hide (show Wat w B g ct cap { d with owner := ⟨k, p, s, c, b, t, x, 0⟩, next := nx } (.slice A0 L c0_) (.slice Ap NP cp) (.slice Ag NG cg) ∧ Fr w B g w by
        have e := HBEG.out
        unfold beginF at e
        rw [HO.out, if_neg (by simp [hu])] at e
        simp only [Prod.mk.injEq] at e
        rw [← e.1, ← e.2, ← HO.out]
        exact ⟨HW.out, Fr.refl⟩)
      subst hu
      go_wp2_with fail
      go_meet
      exact HF
    · have q0 : (uo != 0) = true := by rw [bne_iff_ne]; exact hu
      by_cases hp : bb / 5 % 2 = 1
      · have q1 : (bb / 5 % 2 == 1) = true := by rw [beq_iff_eq]; exact hp
        go_wp2_with fail
        (with_reducible refine (Start_any 2 0 cap 0 _).mono ?_)
        rintro e w7 ⟨rfl, hb7⟩
        have HW7 := hide (HW.out.below hb7)
        clear y1 y13 a2 a3 a4 a5 a6 a7 a8 a9
        obtain ⟨a2, a3, a4, a5, a6, a7, a8, a9⟩ := own_cells HW7.out HO.out
        obtain ⟨f2, f3, f4, f5, f6, f7, f8, f9⟩ := own_unfs HW7.out
        have HF := hide (show Wat (setO w7 B 2 0 0 cap 0 0 0 0) B g ct cap { d with owner := ⟨k, p, s, c, b, t, x, 0⟩, next := nx } (.slice A0 L c0_) (.slice Ap NP cp) (.slice Ag NG cg) ∧ Fr w B g (setO w7 B 2 0 0 cap 0 0 0 0) by
          have e := HBEG.out
          unfold beginF at e
          rw [HO.out, if_pos hu, if_pos (by simpa using hp)] at e
          simp only [Prod.mk.injEq] at e
          rw [← e.1, ← e.2]
          exact ⟨HW7.out.putO 2 0 0 cap 0 0 0 0, (Fr.of_below hb7).setO _ _ _ _ _ _ _ _⟩)
        clear hb7
        go_wp2_with fail
        go_meet
        exact HF
      · have q1 : (bb / 5 % 2 == 1) = false := by rw [beq_eq_false_iff_ne]; exact hp
        go_wp2_with fail
        (with_reducible refine (Start_any 1 0 cap 0 _).mono ?_)
        rintro e w7 ⟨rfl, hb7⟩
        have HW7 := hide (HW.out.below hb7)
        clear y1 y13 a2 a3 a4 a5 a6 a7 a8 a9
        obtain ⟨a2, a3, a4, a5, a6, a7, a8, a9⟩ := own_cells HW7.out HO.out
        obtain ⟨f2, f3, f4, f5, f6, f7, f8, f9⟩ := own_unfs HW7.out
        have y13 : w7.cell? ⟨B, 13, none⟩ = some (.int .i64 nx0) := by rw [← HN0.out]; exact HW7.out.cell 13
        have f13 := HW7.out.unf 13
        have HF := hide (show Wat (((setO w7 B 1 0 0 cap 0 0 0 0).setCell ⟨B, 8, none⟩ (.int .i64 nx0)).setCell ⟨B, 13, none⟩ (.int .i64 (nx0 + 1))) B g ct cap { d with owner := ⟨k, p, s, c, b, t, x, 0⟩, next := nx } (.slice A0 L c0_) (.slice Ap NP cp) (.slice Ag NG cg) ∧ Fr w B g (((setO w7 B 1 0 0 cap 0 0 0 0).setCell ⟨B, 8, none⟩ (.int .i64 nx0)).setCell ⟨B, 13, none⟩ (.int .i64 (nx0 + 1))) by
          have e := HBEG.out
          unfold beginF at e
          rw [HO.out, if_pos hu, if_neg (by simpa using hp), HN0.out] at e
          simp only [Prod.mk.injEq] at e
          rw [← e.1, ← e.2]
          exact ⟨((HW7.out.putO 1 0 0 cap 0 0 0 0).putX rfl nx0).putN (nx0 + 1), (((Fr.of_below hb7).setO _ _ _ _ _ _ _ _).setB _ _).setB _ _⟩)
        clear hb7
        go_wp2_with fail
        go_meet
        exact HF
  case rest =>
    have HW0 := hide hcut.out.1
    have HFR0 := hide hcut.out.2
    clear hcut y1 y13 a2 a3 a4 a5 a6 a7 a8 a9
    have HC := hide (cells_drew HW0.out.mem)
    have y0 : wc.cell? ⟨B, 0, none⟩ = some (.slice A0 L c0_) := HW0.out.cell 0
    obtain ⟨a2, a3, a4, a5, a6, a7, a8, a9⟩ := own_cells HW0.out rfl
    go_upto_region 11 with (fail)
    go_cut [] from 50 (fun wr => ∃ (A1 : Option Addr) (c1_ : Nat), Hid (Wat wr B g ct cap { d with m := m1, owner := ⟨k1, p1, s1, c1, b1, t1, x1, u1⟩, next := nx } (.slice A1 L c1_) (.slice Ap NP cp) (.slice Ag NG cg) ∧ Fr w B g wr))
    case first =>
      go_region_law (first
        | (go_simp; go_at_call 10; (with_reducible refine (Step_c k p s c b t x 0 _ d.m _ HC.out HU.out.big HD.out m1 k1 p1 s1 c1 b1 t1 x1 u1 HSR.out L HL1.out).mono ?_); rintro e w5 ⟨A1, c1_, rfl, ⟨hg1, hg2⟩, hC, hbd, hnw⟩; have hb5_ := undrew hbd; have HW5 := hide (HW0.out.below hb5_); clear y0 a2 a3 a4 a5 a6 a7 a8 a9; have y0 : w5.cell? ⟨B, 0, none⟩ = some (.slice A0 L c0_) := HW5.out.cell 0; have f0 := HW5.out.unf 0; obtain ⟨a2, a3, a4, a5, a6, a7, a8, a9⟩ := own_cells HW5.out rfl; obtain ⟨f2, f3, f4, f5, f6, f7, f8, f9⟩ := own_unfs HW5.out; have HF := hide (show Wat (setO (w5.setCell ⟨B, 0, none⟩ (.slice A1 L c1_)) B k1 p1 s1 c1 b1 t1 x1 u1) B g ct cap { d with m := m1, owner := ⟨k1, p1, s1, c1, b1, t1, x1, u1⟩, next := nx } (.slice A1 L c1_) (.slice Ap NP cp) (.slice Ag NG cg) ∧ Fr w B g (setO (w5.setCell ⟨B, 0, none⟩ (.slice A1 L c1_)) B k1 p1 s1 c1 b1 t1 x1 u1) from ⟨(HW5.out.putM hC (ownB_of HW0.out.ltB HW0.out.ltG hnw)).putO _ _ _ _ _ _ _ _, ((HFR0.out.trans (Fr.of_below hb5_)).setB 0 _).setO _ _ _ _ _ _ _ _⟩); clear hC hbd hb5_ hnw))
      all_goals
        go_wp2_with fail
        go_meet
      all_goals
        exact ⟨A1, c1_, HF⟩
    case rest =>
      obtain ⟨A1, c1_, HF⟩ := hcut
      have HW1 := hide HF.out.1
      have HFR1 := hide HF.out.2
      clear y0 a2 a3 a4 a5 a6 a7 a8 a9
      obtain ⟨a2, a3, a4, a5, a6, a7, a8, a9⟩ := own_cells HW1.out rfl
      by_cases hu1 : u1 = 1
      · have qa : (u1 == 1) = true := by rw [beq_iff_eq]; exact hu1
        by_cases hk1 : k1 = 1
        · have qb : (k1 == 1) = true := by rw [beq_iff_eq]; exact hk1
          have qc : (k1 == 2) = false := by rw [beq_eq_false_iff_ne]; omega
          have hk2 : ¬ k1 = 2 := by omega
          have HER := hide (show RR = { d with m := m1, owner := ⟨k1, p1, s1, c1, b1, t1, x1, u1⟩, next := nx, pushed := addB d.pushed x1 1, got := d.got } by rw [← HRR.out, if_pos ⟨hu1, hk1⟩, if_neg (fun h => hk2 h.2)])
          have y11 : wc.cell? ⟨B, 11, none⟩ = some (.slice Ap NP cp) := HW1.out.cell 11
          have HID := hide (show Ints wc.drew (.slice Ap NP cp) d.pushed from ints_drew HW1.out.pus)
          go_upto_region 13 with (fail)
          go_cut [] from 82 (fun wr => ∃ (A2 : Option Addr) (c2_ : Nat), Hid (Wat wr B g ct cap { d with m := m1, owner := ⟨k1, p1, s1, c1, b1, t1, x1, u1⟩, next := nx, pushed := addB d.pushed x1 1 } (.slice A1 L c1_) (.slice A2 (NP + 1) c2_) (.slice Ag NG cg) ∧ Fr w B g wr))
          case first =>
            go_region_law (first
              | (go_simp; go_at_call 40; (with_reducible refine (Add_n _ d.pushed x1 _ HID.out HU.out.kp HX1.out HU.out.lp (NP + 1) HAP.out).mono ?_); rintro e w6 ⟨A2, c2_, rfl, ⟨hg1, hg2⟩, hI6, hb6d, hnw6⟩; have hb6 := undrew hb6d; have HW6 := hide (HW1.out.below hb6); clear y11 a2 a3 a4 a5 a6 a7 a8 a9; have y11 : w6.cell? ⟨B, 11, none⟩ = some (.slice Ap NP cp) := HW6.out.cell 11; have f11 := HW6.out.unf 11; obtain ⟨a2, a3, a4, a5, a6, a7, a8, a9⟩ := own_cells HW6.out rfl; have HF2 := hide (show Wat (w6.setCell ⟨B, 11, none⟩ (.slice A2 (NP + 1) c2_)) B g ct cap { d with m := m1, owner := ⟨k1, p1, s1, c1, b1, t1, x1, u1⟩, next := nx, pushed := addB d.pushed x1 1 } (.slice A1 L c1_) (.slice A2 (NP + 1) c2_) (.slice Ag NG cg) ∧ Fr w B g (w6.setCell ⟨B, 11, none⟩ (.slice A2 (NP + 1) c2_)) from ⟨HW6.out.putP hI6 (ownB_of HW1.out.ltB HW1.out.ltG hnw6), (HFR1.out.trans (Fr.of_below hb6)).setB 11 _⟩); clear hI6 hb6d hb6 hnw6))
            all_goals
              go_wp2_with fail
              go_meet
            all_goals
              exact ⟨A2, c2_, HF2⟩
          case rest =>
            obtain ⟨A2, c2_, HF2⟩ := hcut
            clear y11 a2 a3 a4 a5 a6 a7 a8 a9
            obtain ⟨a2, a3, a4, a5, a6, a7, a8, a9⟩ := own_cells HF2.out.1 rfl
            have HRES := hide (show WPost w B g ct cap { d with m := m1, owner := ⟨k1, p1, s1, c1, b1, t1, x1, u1⟩, next := nx, pushed := addB d.pushed x1 1, got := d.got } (.returned (.tuple #[])) wc from ⟨_, _, _, rfl, HF2.out.1, HF2.out.2⟩)
            go_wp2
            go_end0
            rw [HER.out]
            exact HRES.out
        · have qb : (k1 == 1) = false := by rw [beq_eq_false_iff_ne]; exact hk1
          by_cases hk2 : k1 = 2
          · have qc : (k1 == 2) = true := by rw [beq_iff_eq]; exact hk2
            have HER := hide (show RR = { d with m := m1, owner := ⟨k1, p1, s1, c1, b1, t1, x1, u1⟩, next := nx, pushed := d.pushed, got := addB d.got x1 1 } by rw [← HRR.out, if_neg (fun h => hk1 h.2), if_pos ⟨hu1, hk2⟩])
            have y12 : wc.cell? ⟨B, 12, none⟩ = some (.slice Ag NG cg) := HW1.out.cell 12
            have HID := hide (show Ints wc.drew (.slice Ag NG cg) d.got from ints_drew HW1.out.got)
            go_upto_region 15 with (fail)
            go_region_law (first
              | (go_simp; go_at_call 40; (with_reducible refine (Add_n _ d.got x1 _ HID.out HU.out.kg HX1.out HU.out.lg (NG + 1) HAG.out).mono ?_); rintro e w6 ⟨A2, c2_, rfl, ⟨hg1, hg2⟩, hI6, hb6d, hnw6⟩; have hb6 := undrew hb6d; have HW6 := hide (HW1.out.below hb6); clear y12 a2 a3 a4 a5 a6 a7 a8 a9; have y12 : w6.cell? ⟨B, 12, none⟩ = some (.slice Ag NG cg) := HW6.out.cell 12; have f12 := HW6.out.unf 12; obtain ⟨a2, a3, a4, a5, a6, a7, a8, a9⟩ := own_cells HW6.out rfl; have HRES := hide (show WPost w B g ct cap { d with m := m1, owner := ⟨k1, p1, s1, c1, b1, t1, x1, u1⟩, next := nx, pushed := d.pushed, got := addB d.got x1 1 } (.returned (.tuple #[])) (w6.setCell ⟨B, 12, none⟩ (.slice A2 (NG + 1) c2_)) from ⟨_, _, _, rfl, HW6.out.putG hI6 (ownB_of HW1.out.ltB HW1.out.ltG hnw6), (HFR1.out.trans (Fr.of_below hb6)).setB 12 _⟩); clear hI6 hb6d hb6 hnw6))
            all_goals
              go_wp2
              go_end0
              rw [HER.out]
              exact HRES.out
          · have qc : (k1 == 2) = false := by rw [beq_eq_false_iff_ne]; exact hk2
            have HER := hide (show RR = { d with m := m1, owner := ⟨k1, p1, s1, c1, b1, t1, x1, u1⟩, next := nx, pushed := d.pushed, got := d.got } by rw [← HRR.out, if_neg (fun h => hk1 h.2), if_neg (fun h => hk2 h.2)])
            have HRES := hide (show WPost w B g ct cap { d with m := m1, owner := ⟨k1, p1, s1, c1, b1, t1, x1, u1⟩, next := nx, pushed := d.pushed, got := d.got } (.returned (.tuple #[])) wc from ⟨_, _, _, rfl, HW1.out, HFR1.out⟩)
            go_wp2
            go_end0
            rw [HER.out]
            exact HRES.out
      · have qa : (u1 == 1) = false := by rw [beq_eq_false_iff_ne]; exact hu1
        have HER := hide (show RR = { d with m := m1, owner := ⟨k1, p1, s1, c1, b1, t1, x1, u1⟩, next := nx, pushed := d.pushed, got := d.got } by rw [← HRR.out, if_neg (fun h => hu1 h.1), if_neg (fun h => hu1 h.1)])
        have HRES := hide (show WPost w B g ct cap { d with m := m1, owner := ⟨k1, p1, s1, c1, b1, t1, x1, u1⟩, next := nx, pushed := d.pushed, got := d.got } (.returned (.tuple #[])) wc from ⟨_, _, _, rfl, HW1.out, HFR1.out⟩)
        go_wp2
        go_end0
        rw [HER.out]
        exact HRES.out
end Go.Proofs.Ythjdjkcdlknhbaa
