/- Layer deque: the law's world: who steals goes on. -/
import Derived.Test.YthjdjkcdlknhbaaDequeWorldB
namespace Go.Proofs.Ythjdjkcdlknhbaa
open Go.RowKit

/-- where the thief has stepped -/
structure Stl (w : World) (B g ct n : Nat) (cap : Int) (d : Dw) (A : Option Addr) (L c : Nat) (m1 : List Int) (dm : Mc) (vP vG : Value) (wr : World) : Prop where
  at_ : Wat wr B g ct cap { d with m := m1, th := d.th.set n dm } (.slice A L c) vP vG
  fr : Fr w B g wr
  b1 : L ≤ c
  b2 : c ≤ 9223372036854775807
set_option maxRecDepth 100000 in
set_option maxHeartbeats 40000000 in
theorem steal_any (B g ct n : Nat) (cap : Int) (d : Dw) (vM vP vG : Value) (w : World) (h : Wat w B g ct cap d vM vP vG) (hn : n < 3) (k p s c b t x u : Int) (ht : d.th[n]? = some ⟨k, p, s, c, b, t, x, u⟩) (hm : AllU d.m) (hd : McU ⟨k, p, s, c, b, t, x, u⟩) (hbig : d.m.length * 8 ≤ 140737488351232)
    (m1 : List Int) (k1 p1 s1 c1 b1 t1 x1 u1 : Int) (hr : stepF d.m ⟨k, p, s, c, b, t, x, u⟩ = (m1, ⟨k1, p1, s1, c1, b1, t1, x1, u1⟩)) (hk : AllK d.got) (hgl : d.got.length < 100000) :
    Calls Try.prog 39 #[pt B, .int .i64 n] w (WPost w B g ct cap { d with m := m1, th := d.th.set n (if u1 ≠ 0 then startF 3 0 cap 0 else ⟨k1, p1, s1, c1, b1, t1, x1, u1⟩), got := if u1 = 1 then addB d.got x1 1 else d.got }) := by
  have hU := step_U hm hd
  rw [hr] at hU
  have hl1 : m1.length = d.m.length := hU.len
  have HX1 := hide (show Kw x1 from hU.mac.x)
  obtain ⟨L, hL⟩ : ∃ L, d.m.length = L := ⟨_, rfl⟩
  obtain ⟨A0, c0_, rfl, hc01, hc02⟩ := cells_form' h.mem
  rw [hL] at hl1 hc01
  have HL1 := hide hl1
  have HBG := hide hbig
  have HD := hide hd
  have HSR := hide hr
  have HW := hide h
  have HC := hide (cells_drew h.mem)
  have hctl := own_form h.thr
  obtain ⟨A_, c_, e_, hct1, hct2⟩ := hctl
  injection e_ with e1_ e2_ e3_
  subst e3_
  unfold maxLen at hct2
  have y0 : w.cell? ⟨B, 0, none⟩ = some (.slice A0 L c0_) := by rw [← hL]; exact h.cell 0
  have y10 : w.cell? ⟨B, 10, none⟩ = some (.slice (some ⟨g, 0, none⟩) 3 ct) := h.cell 10
  obtain ⟨a0, a1, a2, a3, a4, a5, a6, a7⟩ := th_cell h hn ht
  have hne := h.neT
  have hne' := h.neT.symm
  have hn3 : (n : Int) < 3 := by omega
  have HT := hide ht
  rw [hL] at HW HC
  have HTH := hide h.th3
  have HLB := hide (And.intro h.ltB h.ltG)
  clear h hr hd hbig hL hm hU hl1 ht e1_ e2_
  go_enter Try.func39, Try.ntmps39
  go_upto_region 0 with (fail)
  go_cut [] from 4 (fun wr => ∃ (A1 : Option Addr) (c1_ : Nat), Hid (Stl w B g ct n cap d A1 L c1_ m1 ⟨k1, p1, s1, c1, b1, t1, x1, u1⟩ vP vG wr))
  case first =>
    go_region_law (first
      | (go_simp; go_at_call 10; (with_reducible refine (Step_c k p s c b t x u _ d.m _ HC.out HBG.out HD.out m1 k1 p1 s1 c1 b1 t1 x1 u1 HSR.out L HL1.out).mono ?_); rintro e w5 ⟨A1, c1_, rfl, ⟨hg1, hg2⟩, hC, hbd, hnw⟩; have hb5 := undrew hbd; have HW5 := hide (HW.out.below hb5); clear y0 y10 a0 a1 a2 a3 a4 a5 a6 a7; have y0 : w5.cell? ⟨B, 0, none⟩ = some (.slice A0 L c0_) := HW5.out.cell 0; have y10 : w5.cell? ⟨B, 10, none⟩ = some (.slice (some ⟨g, 0, none⟩) 3 ct) := HW5.out.cell 10; have f0 := HW5.out.unf 0; have fz := th_unf HW5.out; obtain ⟨a0, a1, a2, a3, a4, a5, a6, a7⟩ := th_cell HW5.out hn HT.out; have HF := hide (show Stl w B g ct n cap d A1 L c1_ m1 ⟨k1, p1, s1, c1, b1, t1, x1, u1⟩ vP vG (setT (w5.setCell ⟨B, 0, none⟩ (.slice A1 L c1_)) g (n * 8) k1 p1 s1 c1 b1 t1 x1 u1) from ⟨(HW5.out.putM hC (ownB_of HLB.out.1 HLB.out.2 hnw)).putT hn _ _ _ _ _ _ _ _, (((Fr.of_below hb5).setB 0 _).setT (n * 8) _ _ _ _ _ _ _ _), hg1, hg2⟩); clear hC hbd hb5 hnw))
    all_goals
      go_wp2_with fail
      go_meet
    all_goals
      exact ⟨A1, c1_, HF⟩
  case rest =>
    obtain ⟨A1, c1_, HF⟩ := hcut
    have HW1 := hide HF.out.at_
    have HFR := hide HF.out.fr
    have HTS := hide (th_setn HTH.out hn ⟨k1, p1, s1, c1, b1, t1, x1, u1⟩)
    clear y0 y10 a0 a1 a2 a3 a4 a5 a6 a7
    have y10 : wc.cell? ⟨B, 10, none⟩ = some (.slice (some ⟨g, 0, none⟩) 3 ct) := HW1.out.cell 10
    obtain ⟨a0, a1, a2, a3, a4, a5, a6, a7⟩ := th_cell HW1.out hn HTS.out
    by_cases hu : u1 = 0
    · have HER := hide (show { d with m := m1, th := d.th.set n (if u1 ≠ 0 then startF 3 0 cap 0 else ⟨k1, p1, s1, c1, b1, t1, x1, u1⟩), got := if u1 = 1 then addB d.got x1 1 else d.got } = { d with m := m1, th := d.th.set n ⟨k1, p1, s1, c1, b1, t1, x1, u1⟩ } by rw [if_neg (by simpa using hu), if_neg (by omega)])
      have HRES := hide (show WPost w B g ct cap { d with m := m1, th := d.th.set n ⟨k1, p1, s1, c1, b1, t1, x1, u1⟩ } (.returned (.tuple #[])) wc from ⟨_, _, _, rfl, HW1.out, HFR.out⟩)
      subst hu
      go_wp2
      go_end0
      first | exact HRES.out | (rw [HER.out]; exact HRES.out)
    · have q2 : (u1 != 0) = true := by rw [bne_iff_ne]; exact hu
      by_cases hu1 : u1 = 1
      · have HER := hide (show { d with m := m1, th := d.th.set n (if u1 ≠ 0 then startF 3 0 cap 0 else ⟨k1, p1, s1, c1, b1, t1, x1, u1⟩), got := if u1 = 1 then addB d.got x1 1 else d.got } = { d with m := m1, th := d.th.set n (startF 3 0 cap 0), got := addB d.got x1 1 } by rw [if_pos hu, if_pos hu1])
        subst hu1
        clear hu
        obtain ⟨Av, cv, rfl, hv1, hv2⟩ := ints_form' HW1.out.got
        obtain ⟨G, hG⟩ : ∃ G, d.got.length = G := ⟨_, rfl⟩
        have HGD := hide (ints_drew HW1.out.got)
        have y12 : wc.cell? ⟨B, 12, none⟩ = some (.slice Av G cv) := by rw [← hG]; exact HW1.out.cell 12
        have HAL := hide (show (addB d.got x1 1).length = G + 1 by rw [add_one_len, hG])
        rw [hG] at HGD HW1 HF hv1 hgl
        have HKA := hide hk
        have HGL := hide (show d.got.length < 100000 by rw [hG]; exact hgl)
        clear hG hk
        go_upto_region 2 with (fail)
        go_cut [] from 37 (fun wr => ∃ (A2 : Option Addr) (c2_ : Nat), Hid (Wat wr B g ct cap { d with m := m1, th := d.th.set n ⟨k1, p1, s1, c1, b1, t1, x1, 1⟩, got := addB d.got x1 1 } (.slice A1 L c1_) vP (.slice A2 (G + 1) c2_) ∧ Fr w B g wr))
        case first =>
          go_region_law (first
            | (go_simp; go_at_call 40; (with_reducible refine (Add_n _ d.got x1 _ HGD.out HKA.out HX1.out HGL.out (G + 1) HAL.out).mono ?_); rintro e w6 ⟨A2, c2_, rfl, ⟨hg1, hg2⟩, hI6, hb6d, hnw6⟩; have hb6 := undrew hb6d; have HW6 := hide (HW1.out.below hb6); clear y10 y12 a0 a1 a2 a3 a4 a5 a6 a7; have y10 : w6.cell? ⟨B, 10, none⟩ = some (.slice (some ⟨g, 0, none⟩) 3 ct) := HW6.out.cell 10; have y12 : w6.cell? ⟨B, 12, none⟩ = some (.slice Av G cv) := HW6.out.cell 12; have f12 := HW6.out.unf 12; obtain ⟨a0, a1, a2, a3, a4, a5, a6, a7⟩ := th_cell HW6.out hn HTS.out; have HF2 := hide (show Wat (w6.setCell ⟨B, 12, none⟩ (.slice A2 (G + 1) c2_)) B g ct cap { d with m := m1, th := d.th.set n ⟨k1, p1, s1, c1, b1, t1, x1, 1⟩, got := addB d.got x1 1 } (.slice A1 L c1_) vP (.slice A2 (G + 1) c2_) ∧ Fr w B g (w6.setCell ⟨B, 12, none⟩ (.slice A2 (G + 1) c2_)) from ⟨HW6.out.putG hI6 (ownB_of HW1.out.ltB HW1.out.ltG hnw6), (HFR.out.trans (Fr.of_below hb6)).setB 12 _⟩); clear hI6 hb6d hb6 hnw6))
          all_goals
            go_wp2_with fail
            go_meet
          all_goals
            exact ⟨A2, c2_, HF2⟩
        case rest =>
          obtain ⟨A2, c2_, HF2⟩ := hcut
          have HW2 := hide HF2.out.1
          have HFR2 := hide HF2.out.2
          clear y10 y12 a0 a1 a2 a3 a4 a5 a6 a7
          have y10 : wc.cell? ⟨B, 10, none⟩ = some (.slice (some ⟨g, 0, none⟩) 3 ct) := HW2.out.cell 10
          obtain ⟨a0, a1, a2, a3, a4, a5, a6, a7⟩ := th_cell HW2.out hn HTS.out
          go_upto_region 4 with (fail)
          have y1 : wc.cell? ⟨B, 1, none⟩ = some (.int .i64 cap) := HW2.out.cell 1
          have y10 : wc.cell? ⟨B, 10, none⟩ = some (.slice (some ⟨g, 0, none⟩) 3 ct) := HW2.out.cell 10
          go_region_law (first
            | (go_simp; go_at_call 18; (with_reducible refine (Start_any 3 0 cap 0 _).mono ?_); rintro e w7 ⟨rfl, hb7d⟩; have hb7 := undrew hb7d; have HW7 := hide (HW2.out.below hb7); clear y1 y10 a0 a1 a2 a3 a4 a5 a6 a7; have y1 : w7.cell? ⟨B, 1, none⟩ = some (.int .i64 cap) := HW7.out.cell 1; have y10 : w7.cell? ⟨B, 10, none⟩ = some (.slice (some ⟨g, 0, none⟩) 3 ct) := HW7.out.cell 10; have fz := th_unf HW7.out; obtain ⟨a0, a1, a2, a3, a4, a5, a6, a7⟩ := th_cell HW7.out hn HTS.out; have HRES := hide (show WPost w B g ct cap { d with m := m1, th := d.th.set n (startF 3 0 cap 0), got := addB d.got x1 1 } (.returned (.tuple #[])) (setT w7 g (n * 8) 3 0 0 cap 0 0 0 0) from ⟨_, _, _, rfl, (by have h9 := HW7.out.putT hn 3 0 0 cap 0 0 0 0; simp only [List.set_set] at h9; exact h9), (HFR2.out.trans (Fr.of_below hb7)).setT (n * 8) _ _ _ _ _ _ _ _⟩); clear hb7d hb7))
          all_goals
            go_wp2
            go_end0
            first | exact HRES.out | (rw [HER.out]; exact HRES.out)
      · have q1 : (u1 == 1) = false := by rw [beq_eq_false_iff_ne]; exact hu1
        have HER := hide (show { d with m := m1, th := d.th.set n (if u1 ≠ 0 then startF 3 0 cap 0 else ⟨k1, p1, s1, c1, b1, t1, x1, u1⟩), got := if u1 = 1 then addB d.got x1 1 else d.got } = { d with m := m1, th := d.th.set n (startF 3 0 cap 0) } by rw [if_pos hu, if_neg hu1])
        go_upto_region 4 with (fail)
        have y1 : wc.cell? ⟨B, 1, none⟩ = some (.int .i64 cap) := HW1.out.cell 1
        have y10 : wc.cell? ⟨B, 10, none⟩ = some (.slice (some ⟨g, 0, none⟩) 3 ct) := HW1.out.cell 10
        go_region_law (first
          | (go_simp; go_at_call 18; (with_reducible refine (Start_any 3 0 cap 0 _).mono ?_); rintro e w7 ⟨rfl, hb7d⟩; have hb7 := undrew hb7d; have HW7 := hide (HW1.out.below hb7); clear y1 y10 a0 a1 a2 a3 a4 a5 a6 a7; have y1 : w7.cell? ⟨B, 1, none⟩ = some (.int .i64 cap) := HW7.out.cell 1; have y10 : w7.cell? ⟨B, 10, none⟩ = some (.slice (some ⟨g, 0, none⟩) 3 ct) := HW7.out.cell 10; have fz := th_unf HW7.out; obtain ⟨a0, a1, a2, a3, a4, a5, a6, a7⟩ := th_cell HW7.out hn HTS.out; have HRES := hide (show WPost w B g ct cap { d with m := m1, th := d.th.set n (startF 3 0 cap 0) } (.returned (.tuple #[])) (setT w7 g (n * 8) 3 0 0 cap 0 0 0 0) from ⟨_, _, _, rfl, (by have h9 := HW7.out.putT hn 3 0 0 cap 0 0 0 0; simp only [List.set_set] at h9; exact h9), (HFR.out.trans (Fr.of_below hb7)).setT (n * 8) _ _ _ _ _ _ _ _⟩); clear hb7d hb7))
        all_goals
          go_wp2
          go_end0
          first | exact HRES.out | (rw [HER.out]; exact HRES.out)
end Go.Proofs.Ythjdjkcdlknhbaa
