/- DequeOrder: for any size, any schedule by bytes: who steals gets them in the order in which they were pushed. No condition. -/
import Derived.Test.YthjdjkcdlknhbaaDequeStarts
namespace Go.Proofs.Ythjdjkcdlknhbaa.lawDequeOrder
open Go.RowKit Go.WideShapes Go.ChangeShapes Go.ChangeAt Go.Proofs Go.Proofs.Ythjdjkcdlknhbaa

theorem goodup {n X : Nat} {l : Int} {d : Dw} (h : Good n (2 * X + 1 + 2) l d) : Good n (2 * (X + 1) + 1) l d := by
  have e : 2 * (X + 1) + 1 = 2 * X + 1 + 2 := by omega
  rw [e]; exact h
theorem ints_fr {w w' : World} {B g : Nat} {v : Value} {l : List Int} (h : Ints w v l) (hf : Fr w B g w') (hne : ∀ x, v.ownBlock = some x → x ≠ B ∧ x ≠ g) : Ints w' v l :=
  ints_block h hf.size fun y hy hl => hf.block y hl (hne y hy).1 (hne y hy).2
set_option maxRecDepth 100000 in
set_option maxHeartbeats 40000000 in
theorem walk (a0 : Int) (v : Value) (lb : List Int) (w : World) (h : Bytes w v lb) (hlb : ∀ p ∈ lb, 0 ≤ p ∧ p ≤ 255) (ha : 0 ≤ a0 ∧ a0 ≤ 255) : Calls Try.prog 5 #[.int .u8 a0, v] w fun e w' => e = .returned (.bool true) ∧ Below w.heap.size w w' := by
  have hB : Below w.heap.size w w := Below.refl _ _
  obtain ⟨Ab, cb, rfl, hcb1, hcb2, -⟩ := id h
  unfold maxLen at hcb2
  have GB := hide h
  have HLB := hide hlb
  obtain ⟨n, hn⟩ : ∃ n : Nat, 1 + a0 % 4 = (n : Int) := ⟨(1 + a0 % 4).toNat, by omega⟩
  have hn1 : 1 ≤ n ∧ n ≤ 4 := by omega
  obtain ⟨ha1, ha2_⟩ := ha
  have hn2 : 1 + a0.tmod 4 = (n : Int) := by rw [Int.tmod_eq_emod_of_nonneg ha1]; exact hn
  clear h hlb
  go_enter Try.func5, Try.ntmps5
  go_wp2_with fail
  (with_reducible refine (examples_any _).mono ?_)
  rintro e w0_ ⟨rfl, hb0_⟩
  have hB := bcall hB hb0_
  go_wp2_with fail
  (with_reducible refine (start_any n hn1.1 (by omega) _).mono ?_)
  rintro e w1_ ⟨A0, c0, gT, ct, rfl, ⟨p0, q0⟩, ⟨p1, q1⟩, HC0, HT0, hb1_, HNE, HGE⟩
  have hB := bcall hB hb1_
  obtain ⟨w3, e3⟩ : ∃ w3, w1_.alloc (.cells #[.slice A0 (n + 2) c0, .int .i64 n, .int .i64 0, .int .i64 0, .int .i64 0, .int .i64 0, .int .u64 0, .int .u64 0, .int .i64 0, .int .i64 1, .slice (some ⟨gT, 0, none⟩) 3 ct, .slice none 0 0, .slice none 0 0, .int .i64 1] 47) = w3 := ⟨_, rfl⟩
  have hb3 : Below w1_.heap.size w1_ w3 := by rw [← e3]; exact bal _ _
  have HW3 := hide (start_wat HC0 HT0 HNE ⟨hn1.1, by omega⟩ e3)
  have HE3 := hide e3
  have hB3 := bcall hB hb3
  have hBs : w.heap.size ≤ w1_.heap.size := hB.size
  have hB4 : w.heap.size ≤ w3.heap.size := hB3.size
  have hGs : w.heap.size ≤ gT := Nat.le_trans (hb0_.size) HGE
  have HGS := hide (good_start (cap := n) hn1.1 (by omega))
  have HWS := hide (wu_start n (by omega))
  clear e3 HC0 HT0 HNE HGE hb3
  go_wp2
  go_loopw [7, 8] (fun lv iv wr => ∃ (X : Nat) (last : Int) (d : Dw) (vM vP vG : Value), X ≤ 400 ∧ iv = .int .i64 X ∧ lv = .int .i64 last ∧ 0 ≤ last ∧ Hid (SpAt w3 w1_.heap.size gT ct n (n + 2) X d vM vP vG wr ∧ Good n (2 * X + 1) last d)) (fun _ iv _ => 400 - (Go.RowKit.intOf iv).toNat)
  case atStart =>
    rw [HE3.out]
    exact ⟨0, 0, _, _, _, _, by omega, rfl, rfl, Int.le_refl _, hide ⟨⟨HW3.out, Fr.refl, HWS.out⟩, HGS.out⟩⟩
  case round =>
    obtain ⟨X, last, d, vM, vP, vG, hX, rfl, rfl, hl0, HA⟩ := hrel
    have HBW := hide (Fr.below hB3 HA.out.1.fr hB4 hBs hGs)
    by_cases hlt : X < lb.length
    · by_cases h400 : X < 400
      · obtain ⟨bg, bo_, rfl, d0⟩ := bytes_at (GB.out.below HBW.out) hlt
        have hy := HLB.out _ (List.getElem_mem hlt)
        obtain ⟨y, hyy⟩ : ∃ y, lb[X] = y := ⟨_, rfl⟩
        rw [hyy] at d0 hy
        clear hyy
        obtain ⟨b, rfl⟩ : ∃ b : Nat, y = (b : Int) := ⟨y.toNat, by omega⟩
        have hb255 : b ≤ 255 := by omega
        have hlimi : (X : Int) < 400 := by omega
        obtain ⟨Ag, cg, rfl, hg1, hg2⟩ := ints_form' HA.out.1.at_.got
        obtain ⟨NG, hNG⟩ : ∃ NG, d.got.length = NG := ⟨_, rfl⟩
        rw [hNG] at HA hg1
        have HNG := hide hNG
        clear hNG
        have y12 : wr.cell? ⟨w1_.heap.size, 12, none⟩ = some (.slice Ag NG cg) := HA.out.1.at_.cell 12
        have hbm : ((b : Nat) : Int) % 5 = ((b % 5 : Nat) : Int) := by omega
        have hm5 : b % 5 < 5 := Nat.mod_lt _ (by omega)
        obtain ⟨q5, hq5⟩ : ∃ q, b % 5 = q := ⟨_, rfl⟩
        rw [hq5] at hbm hm5
        go_wp2_with fail
        (with_reducible refine (wstep_any w1_.heap.size gT ct n (2 * X + 1) (n + 2) d vM vP _ _ HA.out.1.at_ HA.out.1.wu (by omega) (by omega) (by omega) b hb255).mono ?_)
        rintro e w6 ⟨vM', vP', vG', rfl, hW6, hF6⟩
        have HW6 := hide hW6
        have HF6 := hide hF6
        have HWU := hide (show WU (2 * (X + 1) + 1) (n + 2) (stepW n b d) by
          have e : 2 * (X + 1) + 1 = 2 * X + 1 + 2 := by omega
          rw [e]; exact wu_step n (by omega) HA.out.1.wu (by omega) b)
        have HIW := hide (ints_fr HA.out.1.at_.got hF6 HA.out.1.at_.neG)
        have HKG := hide HA.out.1.wu.kg
        have HLG := hide HA.out.1.wu.lg
        have HGD := hide HA.out.2
        have HFR := hide (HA.out.1.fr.trans hF6)
        clear hW6 hF6 d0 y12
        by_cases hth : q5 < 3
        · have hthi : (q5 : Int) < 3 := by omega
          have hsw : stepW n b d = thF n (b % 5) d := by unfold stepW; rw [if_pos (by omega)]
          rcases good_th HGD.out (by omega) (show b % 5 < 3 by omega) with ⟨hgood, hgot⟩ | ⟨x, hxl, hgot, hgood⟩
          · rw [← hsw] at hgood hgot
            have HGG := hide hgood
            obtain ⟨Ag', cg', rfl, hgg1, hgg2⟩ := ints_form' HW6.out.got
            have HLEN := hide (show (stepW n b d).got.length = NG by rw [hgot]; exact HNG.out)
            rw [HLEN.out] at HW6 hgg1
            have y12 : w6.cell? ⟨w1_.heap.size, 12, none⟩ = some (.slice Ag' NG cg') := HW6.out.cell 12
            have HBE := hide (Below.refl w6.heap.size w6)
            clear hgood hgot hsw
            obtain ⟨dd, hdd⟩ : ∃ dd, stepW n b d = dd := ⟨_, rfl⟩
            have HS2 := hide (show SpAt w3 w1_.heap.size gT ct n (n + 2) (X + 1) dd vM' vP' (.slice Ag' NG cg') w6 by rw [← hdd]; exact ⟨HW6.out, HFR.out, HWU.out⟩)
            have HG2 := hide (show Good n (2 * (X + 1) + 1) last dd by rw [← hdd]; exact (goodup HGG.out))
            have hon := good_once HG2.out (by omega)
            obtain ⟨hin, hHin⟩ : ∃ l, itemsF dd.m 0 n dd.owner = l := ⟨_, rfl⟩
            rw [hHin] at hon
            have HSR := hide hon.2.2
            have HIN := hide hHin
            obtain ⟨NI, hNI⟩ : ∃ NI, hin.length = NI := ⟨_, rfl⟩
            have HNI := hide hNI
            obtain ⟨oo, hoo⟩ : ∃ oo, dd.owner = oo := ⟨_, rfl⟩
            obtain ⟨ko, po, so, co, bo, to_, xo, uo⟩ := oo
            rw [hoo] at hHin
            have HIN2 := hide hHin
            obtain ⟨AM, cM, rfl, hM1, hM2⟩ := cells_form' HS2.out.at_.mem
            have y0 : w6.cell? ⟨w1_.heap.size, 0, none⟩ = some (.slice AM dd.m.length cM) := (HS2.out.at_.below HBE.out).cell 0
            have y1 : w6.cell? ⟨w1_.heap.size, 1, none⟩ = some (.int .i64 n) := (HS2.out.at_.below HBE.out).cell 1
            obtain ⟨a2, a3, a4, a5, a6, a7, a8, a9⟩ := own_cells (HS2.out.at_.below HBE.out) hoo
            have HC7 := hide (HS2.out.at_.mem.below HBE.out)
            have HBG := hide (show dd.m.length * 8 ≤ 140737488351232 by rw [HS2.out.wu.len]; omega)
            have HI6 := hide (show I6 (n : Int) by unfold I6; omega)
            clear hon hHin hNI hoo hdd
            go_wp2_with fail
            (with_reducible refine (Items_any ko po so co bo to_ xo uo _ dd.m 0 n _ HC7.out HS2.out.wu.m HBG.out (by unfold I6; omega) HI6.out hin HIN2.out NI HNI.out).mono ?_)
            rintro e w8 ⟨A8, c8, rfl, ⟨hd1, hd2⟩, J8, hb8⟩
            have J8 := hide J8
            have HB8 := hide (bcall HBE.out hb8)
            clear hb8 y0 y1 a2 a3 a4 a5 a6 a7 a8 a9
            go_wp2
            go_loopw [14] (fun iv wr2 => ∃ K2 : Nat, K2 ≤ NI + 1 ∧ iv = .int .i64 ((K2 : Int) + 1) ∧ Below w8.heap.size w8 wr2) (fun iv _ => NI + 2 - (Go.RowKit.intOf iv).toNat)
            case atStart => exact ⟨0, by omega, rfl, Below.refl _ _⟩
            case round =>
              obtain ⟨K2, hK2, rfl, hbw2⟩ := hrel
              by_cases hlt2 : K2 + 1 < NI
              · have hlh : K2 + 1 < hin.length := by rw [HNI.out]; exact hlt2
                obtain ⟨g1, o1, rfl, -, z1⟩ := ints_at (J8.out.below hbw2) (k := K2) (by omega)
                obtain ⟨g2, o2, e2, -, z2⟩ := ints_at (J8.out.below hbw2) hlh
                injection e2 with e2; injection e2 with e21 e22; subst e21; subst e22
                have hlt3 : hin[K2] < hin[K2 + 1] := List.pairwise_iff_getElem.1 HSR.out K2 (K2 + 1) (by omega) hlh (by omega)
                have hlti : (K2 : Int) + 1 < (NI : Int) := by omega
                generalize hin[K2] = u1_ at *
                generalize hin[K2 + 1] = u2_ at *
                have dq : decide (u2_ ≤ u1_) = false := decide_eq_false (by omega)
                have hng : ¬ u2_ ≤ u1_ := by omega
                go_wp2
                go_quiet (fail)
                go_wp2
                go_roundw
                case rel => exact ⟨K2 + 1, by omega, by go_num, bdrewN hbw2 _⟩
                case measure => simp [Go.RowKit.intOf]; omega
              · have hnl : ¬ ((K2 : Int) + 1 < (NI : Int)) := by omega
                have HN := hide (show SpAt w3 w1_.heap.size gT ct n (n + 2) (X + 1) dd (.slice AM dd.m.length cM) vP' (.slice Ag' NG cg') wr ∧ Good n (2 * (X + 1) + 1) last dd from ⟨⟨HS2.out.at_.below (bcall HB8.out hbw2), HS2.out.fr.trans (Fr.of_below (bcall HB8.out hbw2)), HS2.out.wu⟩, HG2.out⟩)
                go_wp2
                go_roundw
                case rel => exact ⟨X + 1, last, dd, _, vP', _, by omega, by go_num, rfl, by omega, HN⟩
                case measure => simp [Go.RowKit.intOf]; omega
          · rw [← hsw] at hgood hgot
            have HGG := hide hgood
            obtain ⟨Ag', cg', rfl, hgg1, hgg2⟩ := ints_form' HW6.out.got
            have HLEN := hide (show (stepW n b d).got.length = NG + 1 by rw [hgot, add_one_len, HNG.out])
            rw [HLEN.out] at HW6 hgg1
            have y12 : w6.cell? ⟨w1_.heap.size, 12, none⟩ = some (.slice Ag' (NG + 1) cg') := HW6.out.cell 12
            have HIG := hide (show Ints w6 (.slice Ag' (NG + 1) cg') (addB d.got x 1) by have := HW6.out.got; rw [hgot] at this; exact this)
            have HKX := hide (show AllK (addB d.got x 1) by rw [← hgot]; exact HWU.out.kg)
            have HLX := hide (show (addB d.got x 1).length ≤ 17592186044416 by rw [add_one_len]; have := HLG.out; omega)
            have HLS := hide (show lessL (addB d.got x 1) d.got = [x] by unfold lessL; rw [less_add]; simp)
            have HLI := hide (show (lessB (addB d.got x 1) d.got).isSome = true by rw [less_add]; simp)
            have dl : decide (x ≤ last) = false := decide_eq_false (by omega)
            have hxn : ¬ x ≤ last := by omega
            clear hgood hgot hsw
            go_wp2_with fail
            (with_reducible refine (Less_c _ _ (addB d.got x 1) d.got _ HIG.out HIW.out HKX.out HKG.out HLX.out [x] HLS.out true HLI.out 1 rfl).mono ?_)
            rintro e w7 ⟨A7, c7, rfl, ⟨hs1, hs2⟩, hI7, hb7⟩
            obtain ⟨g7, o7, rfl, -, x0⟩ := ints_at hI7 (k := 0) (by simp)
            simp only [List.getElem_cons_zero, Nat.add_zero] at x0
            have HBE := hide hb7
            clear hI7 hb7 y12
            obtain ⟨dd, hdd⟩ : ∃ dd, stepW n b d = dd := ⟨_, rfl⟩
            have HS2 := hide (show SpAt w3 w1_.heap.size gT ct n (n + 2) (X + 1) dd vM' vP' (.slice Ag' (NG + 1) cg') w6 by rw [← hdd]; exact ⟨HW6.out, HFR.out, HWU.out⟩)
            have HG2 := hide (show Good n (2 * (X + 1) + 1) x dd by rw [← hdd]; exact (goodup HGG.out))
            have hon := good_once HG2.out (by omega)
            obtain ⟨hin, hHin⟩ : ∃ l, itemsF dd.m 0 n dd.owner = l := ⟨_, rfl⟩
            rw [hHin] at hon
            have HSR := hide hon.2.2
            have HIN := hide hHin
            obtain ⟨NI, hNI⟩ : ∃ NI, hin.length = NI := ⟨_, rfl⟩
            have HNI := hide hNI
            obtain ⟨oo, hoo⟩ : ∃ oo, dd.owner = oo := ⟨_, rfl⟩
            obtain ⟨ko, po, so, co, bo, to_, xo, uo⟩ := oo
            rw [hoo] at hHin
            have HIN2 := hide hHin
            obtain ⟨AM, cM, rfl, hM1, hM2⟩ := cells_form' HS2.out.at_.mem
            have y0 : w7.cell? ⟨w1_.heap.size, 0, none⟩ = some (.slice AM dd.m.length cM) := (HS2.out.at_.below HBE.out).cell 0
            have y1 : w7.cell? ⟨w1_.heap.size, 1, none⟩ = some (.int .i64 n) := (HS2.out.at_.below HBE.out).cell 1
            obtain ⟨a2, a3, a4, a5, a6, a7, a8, a9⟩ := own_cells (HS2.out.at_.below HBE.out) hoo
            have HC7 := hide (HS2.out.at_.mem.below HBE.out)
            have HBG := hide (show dd.m.length * 8 ≤ 140737488351232 by rw [HS2.out.wu.len]; omega)
            have HI6 := hide (show I6 (n : Int) by unfold I6; omega)
            clear hon hHin hNI hoo hdd
            go_wp2_with fail
            (with_reducible refine (Items_any ko po so co bo to_ xo uo _ dd.m 0 n _ HC7.out HS2.out.wu.m HBG.out (by unfold I6; omega) HI6.out hin HIN2.out NI HNI.out).mono ?_)
            rintro e w8 ⟨A8, c8, rfl, ⟨hd1, hd2⟩, J8, hb8⟩
            have J8 := hide J8
            have HB8 := hide (bcall HBE.out hb8)
            clear hb8 y0 y1 a2 a3 a4 a5 a6 a7 a8 a9
            go_wp2
            go_loopw [14] (fun iv wr2 => ∃ K2 : Nat, K2 ≤ NI + 1 ∧ iv = .int .i64 ((K2 : Int) + 1) ∧ Below w8.heap.size w8 wr2) (fun iv _ => NI + 2 - (Go.RowKit.intOf iv).toNat)
            case atStart => exact ⟨0, by omega, rfl, Below.refl _ _⟩
            case round =>
              obtain ⟨K2, hK2, rfl, hbw2⟩ := hrel
              by_cases hlt2 : K2 + 1 < NI
              · have hlh : K2 + 1 < hin.length := by rw [HNI.out]; exact hlt2
                obtain ⟨g1, o1, rfl, -, z1⟩ := ints_at (J8.out.below hbw2) (k := K2) (by omega)
                obtain ⟨g2, o2, e2, -, z2⟩ := ints_at (J8.out.below hbw2) hlh
                injection e2 with e2; injection e2 with e21 e22; subst e21; subst e22
                have hlt3 : hin[K2] < hin[K2 + 1] := List.pairwise_iff_getElem.1 HSR.out K2 (K2 + 1) (by omega) hlh (by omega)
                have hlti : (K2 : Int) + 1 < (NI : Int) := by omega
                generalize hin[K2] = u1_ at *
                generalize hin[K2 + 1] = u2_ at *
                have dq : decide (u2_ ≤ u1_) = false := decide_eq_false (by omega)
                have hng : ¬ u2_ ≤ u1_ := by omega
                go_wp2
                go_quiet (fail)
                go_wp2
                go_roundw
                case rel => exact ⟨K2 + 1, by omega, by go_num, bdrewN hbw2 _⟩
                case measure => simp [Go.RowKit.intOf]; omega
              · have hnl : ¬ ((K2 : Int) + 1 < (NI : Int)) := by omega
                have HN := hide (show SpAt w3 w1_.heap.size gT ct n (n + 2) (X + 1) dd (.slice AM dd.m.length cM) vP' (.slice Ag' (NG + 1) cg') wr ∧ Good n (2 * (X + 1) + 1) x dd from ⟨⟨HS2.out.at_.below (bcall HB8.out hbw2), HS2.out.fr.trans (Fr.of_below (bcall HB8.out hbw2)), HS2.out.wu⟩, HG2.out⟩)
                go_wp2
                go_roundw
                case rel => exact ⟨X + 1, x, dd, _, vP', _, by omega, by go_num, rfl, by omega, HN⟩
                case measure => simp [Go.RowKit.intOf]; omega
        · have hthi : ¬ ((q5 : Int) < 3) := by omega
          have dthi : decide ((q5 : Int) < 3) = false := decide_eq_false hthi
          have HGG := hide (show Good n (2 * X + 1 + 2) last (stepW n b d) from good_step HGD.out (by omega) b hl0)
          have HBE := hide (Below.refl w6.heap.size w6)
          obtain ⟨dd, hdd⟩ : ∃ dd, stepW n b d = dd := ⟨_, rfl⟩
          have HS2 := hide (show SpAt w3 w1_.heap.size gT ct n (n + 2) (X + 1) dd vM' vP' vG' w6 by rw [← hdd]; exact ⟨HW6.out, HFR.out, HWU.out⟩)
          have HG2 := hide (show Good n (2 * (X + 1) + 1) last dd by rw [← hdd]; exact (goodup HGG.out))
          have hon := good_once HG2.out (by omega)
          obtain ⟨hin, hHin⟩ : ∃ l, itemsF dd.m 0 n dd.owner = l := ⟨_, rfl⟩
          rw [hHin] at hon
          have HSR := hide hon.2.2
          have HIN := hide hHin
          obtain ⟨NI, hNI⟩ : ∃ NI, hin.length = NI := ⟨_, rfl⟩
          have HNI := hide hNI
          obtain ⟨oo, hoo⟩ : ∃ oo, dd.owner = oo := ⟨_, rfl⟩
          obtain ⟨ko, po, so, co, bo, to_, xo, uo⟩ := oo
          rw [hoo] at hHin
          have HIN2 := hide hHin
          obtain ⟨AM, cM, rfl, hM1, hM2⟩ := cells_form' HS2.out.at_.mem
          have y0 : w6.cell? ⟨w1_.heap.size, 0, none⟩ = some (.slice AM dd.m.length cM) := (HS2.out.at_.below HBE.out).cell 0
          have y1 : w6.cell? ⟨w1_.heap.size, 1, none⟩ = some (.int .i64 n) := (HS2.out.at_.below HBE.out).cell 1
          obtain ⟨a2, a3, a4, a5, a6, a7, a8, a9⟩ := own_cells (HS2.out.at_.below HBE.out) hoo
          have HC7 := hide (HS2.out.at_.mem.below HBE.out)
          have HBG := hide (show dd.m.length * 8 ≤ 140737488351232 by rw [HS2.out.wu.len]; omega)
          have HI6 := hide (show I6 (n : Int) by unfold I6; omega)
          clear hon hHin hNI hoo hdd
          go_wp2_with fail
          (with_reducible refine (Items_any ko po so co bo to_ xo uo _ dd.m 0 n _ HC7.out HS2.out.wu.m HBG.out (by unfold I6; omega) HI6.out hin HIN2.out NI HNI.out).mono ?_)
          rintro e w8 ⟨A8, c8, rfl, ⟨hd1, hd2⟩, J8, hb8⟩
          have J8 := hide J8
          have HB8 := hide (bcall HBE.out hb8)
          clear hb8 y0 y1 a2 a3 a4 a5 a6 a7 a8 a9
          go_wp2
          go_loopw [14] (fun iv wr2 => ∃ K2 : Nat, K2 ≤ NI + 1 ∧ iv = .int .i64 ((K2 : Int) + 1) ∧ Below w8.heap.size w8 wr2) (fun iv _ => NI + 2 - (Go.RowKit.intOf iv).toNat)
          case atStart => exact ⟨0, by omega, rfl, Below.refl _ _⟩
          case round =>
            obtain ⟨K2, hK2, rfl, hbw2⟩ := hrel
            by_cases hlt2 : K2 + 1 < NI
            · have hlh : K2 + 1 < hin.length := by rw [HNI.out]; exact hlt2
              obtain ⟨g1, o1, rfl, -, z1⟩ := ints_at (J8.out.below hbw2) (k := K2) (by omega)
              obtain ⟨g2, o2, e2, -, z2⟩ := ints_at (J8.out.below hbw2) hlh
              injection e2 with e2; injection e2 with e21 e22; subst e21; subst e22
              have hlt3 : hin[K2] < hin[K2 + 1] := List.pairwise_iff_getElem.1 HSR.out K2 (K2 + 1) (by omega) hlh (by omega)
              have hlti : (K2 : Int) + 1 < (NI : Int) := by omega
              generalize hin[K2] = u1_ at *
              generalize hin[K2 + 1] = u2_ at *
              have dq : decide (u2_ ≤ u1_) = false := decide_eq_false (by omega)
              have hng : ¬ u2_ ≤ u1_ := by omega
              go_wp2
              go_quiet (fail)
              go_wp2
              go_roundw
              case rel => exact ⟨K2 + 1, by omega, by go_num, bdrewN hbw2 _⟩
              case measure => simp [Go.RowKit.intOf]; omega
            · have hnl : ¬ ((K2 : Int) + 1 < (NI : Int)) := by omega
              have HN := hide (show SpAt w3 w1_.heap.size gT ct n (n + 2) (X + 1) dd (.slice AM dd.m.length cM) vP' vG' wr ∧ Good n (2 * (X + 1) + 1) last dd from ⟨⟨HS2.out.at_.below (bcall HB8.out hbw2), HS2.out.fr.trans (Fr.of_below (bcall HB8.out hbw2)), HS2.out.wu⟩, HG2.out⟩)
              go_wp2
              go_roundw
              case rel => exact ⟨X + 1, last, dd, _, vP', vG', by omega, by go_num, rfl, by omega, HN⟩
              case measure => simp [Go.RowKit.intOf]; omega
      · have h400f : ¬ ((X : Int) < 400) := by omega
        have hBf := HBW.out
        go_wp2
        go_ret
        exact ⟨rfl, hBf⟩
    · have hltf : ¬ ((X : Int) < (lb.length : Int)) := by omega
      have hBf := HBW.out
      go_wp2
      go_ret
      exact ⟨rfl, hBf⟩

set_option maxRecDepth 100000 in
theorem lifted (os : Os) (started : os.Started) (H : Type) (enc : TypeId × Value → H) :
    ReturnsInHanded {} Try.checked os 5 .any (Rows.dequeOrderSpec.pre6 enc Try.prog Try.f5 Rows.dequeOrderRow.domain false) (Rows.dequeOrderSpec.post enc Try.prog Try.f5 false true false false) := by
  refine returnsInHanded_of_change_sized (C := Try.checked) ownL started (by kernel_rfl) Try.func5
    (ChangeSpec.witness6 (enc := enc) (C := Try.checked) false ⟨#[], #[.int .u8 0, .slice none 0 0], []⟩ 8 (by kernel_rfl) (by kernel_rfl) (by kernel_rfl) (by kernel_rfl)) ?_
  intro W base args ds gs before hval hW _ hsz0 _
  have hW' := hW
  obtain ⟨p, q, hA0, hV, rfl, hfz, hnd⟩ := hW
  have hA : DataW.TrodAll enc Try.prog W 0 (fun _ => true) true Try.f5.params.toList args.toList ds p := hA0
  rw [Try.params5] at hA hval
  obtain ⟨v0, vs0, d0, ds0, p0, q0, hargs, rfl, rfl, h0, r0⟩ := trodAll_cons hA
  obtain ⟨v1, vs1, d1, ds1, p1, q1, rfl, rfl, rfl, h1, r1⟩ := trodAll_cons r0
  obtain ⟨rfl, rfl, rfl⟩ := trodAll_nil r1
  obtain rfl : args = #[v0, v1] := by cases args; simp_all
  obtain ⟨rfl, rfl⟩ := trodVars_none hV
  obtain ⟨a0, rfl, rfl, rfl, w0⟩ := open_int Try.underlying5 (hval 0 5 v0 rfl rfl) h0
  have hx0 : 0 ≤ a0 ∧ a0 ≤ 255 := by simpa [Lit.wf, IntKind.min, IntKind.max, IntKind.signed, IntKind.bits] using w0
  obtain ⟨l1, hl1, hq1, hd1⟩ := open_bytes (hval 1 43 v1 rfl rfl) h1
  have hsz : (DataW.weightsEach Try.prog [5, 43] ([.lit (.int .u8 a0), d1] : List (DataW H))).all (· ≤ reachBytes) = true := hsz0
  have e1 : l1.length * 1 ≤ 140737488351232 := slice_reach hsz 1 rfl rfl Try.underlying43 (by kernel_rfl) hd1
  refine (walk a0 v1 l1 W hl1 hq1 hx0).mono fun e W' ⟨he, hg⟩ => ?_
  subst he
  exact ⟨_, rfl, law_post laidOutL (by kernel_rfl) rfl Try.underlying4 rfl ⟨rfl, rfl, rfl⟩ hW' hg⟩

/-- THE STATEMENT -/
theorem proved : Rows.DequeOrderSaid :=
  OpenClaim.holds_of_wide 5 Try.f5 rfl rfl rfl rfl rfl rfl rfl ⟨rfl, rfl, rfl, rfl, rfl⟩ rfl rfl rfl rfl rfl (by kernel_rfl) Try.func5 (by kernel_rfl)
    (of_decide_eq_true (by kernel_rfl)) (by unfold Func.isWrapper; first | (rw [if_pos (by decide +kernel)]; kernel_rfl) | (rw [if_neg (by decide +kernel)]; exact ⟨rfl, rfl⟩))
    (fun os started H enc _ => lifted os started H enc)
end Go.Proofs.Ythjdjkcdlknhbaa.lawDequeOrder
