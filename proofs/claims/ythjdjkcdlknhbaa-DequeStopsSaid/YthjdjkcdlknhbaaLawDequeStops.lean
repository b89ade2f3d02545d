/- DequeStops: for any size, any schedule by bytes, whoever: who stops stops others not: an owner who goes on alone comes to its end in seven steps, a thief alone in four. No condition. -/
import Derived.Test.YthjdjkcdlknhbaaDequeStarts
namespace Go.Proofs.Ythjdjkcdlknhbaa.lawDequeStops
open Go.RowKit Go.WideShapes Go.ChangeShapes Go.ChangeAt Go.Proofs Go.Proofs.Ythjdjkcdlknhbaa

set_option maxRecDepth 100000 in
set_option maxHeartbeats 40000000 in
theorem walk (a0 : Int) (v : Value) (lb : List Int) (a2 : Int) (w : World) (h : Bytes w v lb) (hlb : ∀ p ∈ lb, 0 ≤ p ∧ p ≤ 255) (ha : 0 ≤ a0 ∧ a0 ≤ 255) (hw : 0 ≤ a2 ∧ a2 ≤ 255) : Calls Try.prog 7 #[.int .u8 a0, v, .int .u8 a2] w fun e w' => e = .returned (.bool true) ∧ Below w.heap.size w w' := by
  have hB : Below w.heap.size w w := Below.refl _ _
  obtain ⟨Ab, cb, rfl, hcb1, hcb2, -⟩ := id h
  unfold maxLen at hcb2
  have GB := hide h
  have HLB := hide hlb
  obtain ⟨n, hn⟩ : ∃ n : Nat, 1 + a0 % 4 = (n : Int) := ⟨(1 + a0 % 4).toNat, by omega⟩
  have hn1 : 1 ≤ n ∧ n ≤ 4 := by omega
  obtain ⟨ha1, ha2_⟩ := ha
  have hn2 : 1 + a0.tmod 4 = (n : Int) := by rw [Int.tmod_eq_emod_of_nonneg ha1]; exact hn
  clear h hlb
  go_enter Try.func7, Try.ntmps7
  go_wp2_with fail
  (with_reducible refine (examples_any _).mono ?_)
  rintro e w0_ ⟨rfl, hb0_⟩
  have hB := bcall hB hb0_
  go_wp2_with fail
  (with_reducible refine (start_any n hn1.1 (by omega) _).mono ?_)
  rintro e w1_ ⟨A0, c0, gT, ct, rfl, ⟨p0, q0⟩, ⟨p1, q1⟩, HC0, HT0, hb1_, HNE, HGE⟩
  have hB := bcall hB hb1_
  obtain ⟨w3, e3⟩ : ∃ w3, w1_.alloc (.cells #[.slice A0 (n + 2) c0, .int .i64 n, .int .i64 0, .int .i64 0, .int .i64 0, .int .i64 0, .int .u64 0, .int .u64 0, .int .i64 0, .int .i64 1, .slice (some ⟨gT, 0, none⟩) 3 ct, .slice none 0 0, .slice none 0 0, .int .i64 1] 47) = w3 := ⟨_, rfl⟩
  have hb3 : Below w1_.heap.size w1_ w3 := by rw [← e3]; exact bal _ _
  have HW3 := hide (start_wat HC0 HT0 HNE ⟨hn1.1, by omega⟩ e3)
  have HE3 := hide e3
  have hB3 := bcall hB hb3
  have hBs : w.heap.size ≤ w1_.heap.size := hB.size
  have hB4 : w.heap.size ≤ w3.heap.size := hB3.size
  have hGs : w.heap.size ≤ gT := Nat.le_trans (hb0_.size) HGE
  have HGS := hide (good_start (cap := n) hn1.1 (by omega))
  have HWS := hide (wu_start n (by omega))
  clear e3 HC0 HT0 HNE HGE hb3
  go_wp2
  obtain ⟨hw1, hw2⟩ := hw
  go_loopw [9] (fun iv wr => ∃ (X : Nat) (d : Dw) (vM vP vG : Value), X ≤ 200 ∧ iv = .int .i64 X ∧ Hid (SpAt w3 w1_.heap.size gT ct n (n + 2) X d vM vP vG wr ∧ Good n (2 * X + 1) 0 d)) (fun iv _ => 200 - (Go.RowKit.intOf iv).toNat)
  case atStart =>
    rw [HE3.out]
    exact ⟨0, _, _, _, _, by omega, rfl, hide ⟨⟨HW3.out, Fr.refl, HWS.out⟩, HGS.out⟩⟩
  case round =>
    obtain ⟨X, d, vM, vP, vG, hX, rfl, HA⟩ := hrel
    have HBW := hide (Fr.below hB3 HA.out.1.fr hB4 hBs hGs)
    by_cases hlt : X < lb.length
    · by_cases h200 : X < 200
      · obtain ⟨bg, bo_, rfl, d0⟩ := bytes_at (GB.out.below HBW.out) hlt
        have hy := HLB.out _ (List.getElem_mem hlt)
        obtain ⟨y, hyy⟩ : ∃ y, lb[X] = y := ⟨_, rfl⟩
        rw [hyy] at d0 hy
        clear hyy
        obtain ⟨b, rfl⟩ : ∃ b : Nat, y = (b : Int) := ⟨y.toNat, by omega⟩
        have hb255 : b ≤ 255 := by omega
        have h200i : (X : Int) < 200 := by omega
        go_wp2_with fail
        (with_reducible refine (wstep_any w1_.heap.size gT ct n (2 * X + 1) (n + 2) d vM vP vG _ HA.out.1.at_ HA.out.1.wu (by omega) (by omega) (by omega) b hb255).mono ?_)
        rintro e w6 ⟨vM', vP', vG', rfl, hW6, hF6⟩
        have HN := hide (show SpAt w3 w1_.heap.size gT ct n (n + 2) (X + 1) (stepW n b d) vM' vP' vG' w6 ∧ Good n (2 * (X + 1) + 1) 0 (stepW n b d) by
          have e : 2 * (X + 1) + 1 = 2 * X + 1 + 2 := by omega
          refine ⟨⟨hW6, HA.out.1.fr.trans hF6, ?_⟩, ?_⟩
          · rw [e]; exact wu_step n (by omega) HA.out.1.wu (by omega) b
          · rw [e]; exact good_step HA.out.2 (by omega) b (Int.le_refl _))
        clear hW6 hF6
        go_wp2
        go_roundw
        case rel => exact ⟨X + 1, _, vM', vP', vG', by omega, by go_num, HN⟩
        case measure => simp [Go.RowKit.intOf]; omega
      · have h200f : ¬ ((X : Int) < 200) := by omega
        have hlM : d.m.length = n + 2 := HA.out.1.wu.len
        obtain ⟨AM, cM, rfl, hM1, hM2⟩ := cells_form' HA.out.1.at_.mem
        rw [hlM] at HA hM1
        have HLM := hide hlM
        clear hlM
        have y0 : wr.cell? ⟨w1_.heap.size, 0, none⟩ = some (.slice AM (n + 2) cM) := HA.out.1.at_.cell 0
        have y10 : wr.cell? ⟨w1_.heap.size, 10, none⟩ = some (.slice (some ⟨gT, 0, none⟩) 3 ct) := HA.out.1.at_.cell 10
        obtain ⟨oo, hoo⟩ : ∃ oo, d.owner = oo := ⟨_, rfl⟩
        obtain ⟨ko, po, so, co, bo, to_, xo, uo⟩ := oo
        have HO := hide hoo
        obtain ⟨a2_, a3, a4, a5, a6, a7, a8, a9⟩ := own_cells HA.out.1.at_ hoo
        have HBG := hide (show d.m.length * 8 ≤ 140737488351232 by rw [HLM.out]; omega)
        have hneT := HA.out.1.at_.neT
        have hneT' := hneT.symm
        have hltB := HA.out.1.at_.ltB
        have hltG := HA.out.1.at_.ltG
        have HGD := hide HA.out.2
        clear hoo
        by_cases hwho : a2 % 4 < 3
        · obtain ⟨j, hj⟩ : ∃ j : Nat, a2 % 4 = (j : Int) := ⟨(a2 % 4).toNat, by omega⟩
          have hj3 : j < 3 := by omega
          have hji : (j : Int) < 3 := by omega
          have hj2 : a2.tmod 4 = (j : Int) := by rw [Int.tmod_eq_emod_of_nonneg hw1]; exact hj
          have dj : decide ((j : Int) < 3) = true := decide_eq_true hji
          obtain ⟨td_, htd⟩ : ∃ t, d.th[j]? = some t := ⟨d.th[j]'(by rw [HA.out.1.wu.th3]; exact hj3), List.getElem?_eq_getElem _⟩
          have hmd := HA.out.1.wu.th td_ (List.mem_of_getElem? htd)
          have hE : td_.out = 0 ∧ Ends 4 d.m td_ := by
            obtain ⟨⟨t, bt, e, ps, H, hin, -⟩, -, -, -⟩ := HGD.out
            exact thief_ends (hin.th td_ (List.mem_of_getElem? htd)) d.m
          obtain ⟨kd, pd, sd, cd, bd, td, xd, ud⟩ := td_
          obtain ⟨hud, hen⟩ := hE
          simp only at hud
          subst hud
          have HEND := hide hen
          have HMD := hide hmd
          obtain ⟨g0, g1, g2, g3, g4, g5, g6, g7⟩ := th_cell HA.out.1.at_ hj3 htd
          clear hen hmd htd hwho
          obtain ⟨r, hr⟩ : ∃ r, runF 4 d.m ⟨kd, pd, sd, cd, bd, td, xd, 0⟩ = r := ⟨_, rfl⟩
          have hle := run_le 4 d.m ⟨kd, pd, sd, cd, bd, td, xd, 0⟩
          rw [hr] at hle
          have hend := HEND.out
          unfold Ends at hend
          rw [hr] at hend
          obtain ⟨M1, ⟨k1, p1, s1, c1, b1, t1, x1, u1⟩, N1⟩ := r
          simp only at hle hend
          obtain ⟨hu1, hp1⟩ := hend
          have qe : (u1 != 0) = true := by rw [bne_iff_ne]; exact hu1
          have qp : decide (pd < p1) = true := decide_eq_true hp1
          have HRR := hide hr
          have qn : decide ((N1 : Int) ≤ 4) = true := decide_eq_true (by omega)
          have hle2 : (N1 : Int) ≤ 4 := by omega
          clear hr hle
          obtain ⟨w4, e4, hb4, M4⟩ := box_res wr kd pd sd cd bd td xd 0
          have HE4 := hide e4
          have M4 := hide M4
          clear e4
          have HC4 := hide (HA.out.1.at_.mem.below hb4)
          have hB5 := bcall HBW.out hb4
          have y0_ := keepc hb4 y0
          go_upto_region 14 with (fail)
          rw [HE4.out]
          obtain ⟨z0, z1, z2, z3, z4, z5, z6, z7⟩ := M4.out.cells
          go_wp2_with fail
          (with_reducible refine (run_cu kd pd sd cd bd td xd 0 _ d.m _ HC4.out HBG.out HA.out.1.wu.m HMD.out 4 M1 k1 p1 s1 c1 b1 t1 x1 u1 N1 HRR.out (n + 2) HLM.out (by decide) 4 (N1 : Int) rfl rfl).mono ?_)
          rintro e w5 ⟨A5, c5, rfl, -, -, -, hb5, -, -⟩
          have hB6 := bcall hB5 hb5
          have M5 := hide (M4.out.below hb5)
          obtain ⟨w7, e7, hb7, M7⟩ := box_res w5 k1 p1 s1 c1 b1 t1 x1 u1
          have HE7 := hide e7
          have M7 := hide M7
          clear e7
          have M5 := hide (M5.out.below hb7)
          have hB7 := bcall hB6 hb7
          clear z0 z1 z2 z3 z4 z5 z6 z7
          go_upto_region 15 with (fail)
          rw [HE7.out]
          obtain ⟨z0, z1, z2, z3, z4, z5, z6, z7⟩ := M5.out.cells
          obtain ⟨v0, v1, v2, v3, v4, v5, v6, v7⟩ := M7.out.cells
          have qd : ((0 : Int) != 0) = false := rfl
          go_wp2
          go_ret
          exact ⟨rfl, hB7⟩
        · have hwn : ¬ a2.tmod 4 < 3 := by rw [Int.tmod_eq_emod_of_nonneg hw1]; exact hwho
          have dw : decide (a2 % 4 < 3) = false := decide_eq_false hwho
          have hmd : McU ⟨ko, po, so, co, bo, to_, xo, uo⟩ := by rw [← HO.out]; exact HA.out.1.wu.o
          have HMD := hide hmd
          clear hmd
          by_cases hu : uo = 0
          · subst hu
            have HEND := hide (show Ends 7 d.m ⟨ko, po, so, co, bo, to_, xo, 0⟩ by
              obtain ⟨⟨t, bt, e, ps, H, hin, -⟩, -, -, -⟩ := HGD.out
              have := hin.own
              rw [HO.out] at this
              exact owner_ends this d.m rfl)
            obtain ⟨r, hr⟩ : ∃ r, runF 7 d.m ⟨ko, po, so, co, bo, to_, xo, 0⟩ = r := ⟨_, rfl⟩
            have hle := run_le 7 d.m ⟨ko, po, so, co, bo, to_, xo, 0⟩
            rw [hr] at hle
            have hend := HEND.out
            unfold Ends at hend
            rw [hr] at hend
            obtain ⟨M1, ⟨k1, p1, s1, c1, b1, t1, x1, u1⟩, N1⟩ := r
            simp only at hle hend
            obtain ⟨hu1, hp1⟩ := hend
            have qe : (u1 != 0) = true := by rw [bne_iff_ne]; exact hu1
            have qp : decide (po < p1) = true := decide_eq_true hp1
            have HRR := hide hr
            have qn : decide ((N1 : Int) ≤ 7) = true := decide_eq_true (by omega)
            have hle2 : (N1 : Int) ≤ 7 := by omega
            clear hr hle
            obtain ⟨w4, e4, hb4, M4⟩ := box_res wr ko po so co bo to_ xo 0
            have HE4 := hide e4
            have M4 := hide M4
            clear e4
            have HC4 := hide (HA.out.1.at_.mem.below hb4)
            have hB5 := bcall HBW.out hb4
            have y0_ := keepc hb4 y0
            go_upto_region 14 with (fail)
            rw [HE4.out]
            obtain ⟨z0, z1, z2, z3, z4, z5, z6, z7⟩ := M4.out.cells
            go_wp2_with fail
            (with_reducible refine (run_cu ko po so co bo to_ xo 0 _ d.m _ HC4.out HBG.out HA.out.1.wu.m HMD.out 7 M1 k1 p1 s1 c1 b1 t1 x1 u1 N1 HRR.out (n + 2) HLM.out (by decide) 7 (N1 : Int) rfl rfl).mono ?_)
            rintro e w5 ⟨A5, c5, rfl, -, -, -, hb5, -, -⟩
            have hB6 := bcall hB5 hb5
            have M5 := hide (M4.out.below hb5)
            obtain ⟨w7, e7, hb7, M7⟩ := box_res w5 k1 p1 s1 c1 b1 t1 x1 u1
            have HE7 := hide e7
            have M7 := hide M7
            clear e7
            have M5 := hide (M5.out.below hb7)
            have hB7 := bcall hB6 hb7
            clear z0 z1 z2 z3 z4 z5 z6 z7
            go_upto_region 15 with (fail)
            rw [HE7.out]
            obtain ⟨z0, z1, z2, z3, z4, z5, z6, z7⟩ := M5.out.cells
            obtain ⟨v0, v1, v2, v3, v4, v5, v6, v7⟩ := M7.out.cells
            have qd : ((0 : Int) != 0) = false := rfl
            go_wp2
            go_ret
            exact ⟨rfl, hB7⟩
          · have qo : (uo != 0) = true := by rw [bne_iff_ne]; exact hu
            obtain ⟨r, hr⟩ : ∃ r, runF 7 d.m ⟨ko, po, so, co, bo, to_, xo, uo⟩ = r := ⟨_, rfl⟩
            have hle := run_le 7 d.m ⟨ko, po, so, co, bo, to_, xo, uo⟩
            rw [hr] at hle
            have hst := run_stop 7 d.m ⟨ko, po, so, co, bo, to_, xo, uo⟩ hu
            rw [hr] at hst
            obtain ⟨M1, ⟨k1, p1, s1, c1, b1, t1, x1, u1⟩, N1⟩ := r
            simp only at hle
            simp only [Prod.mk.injEq, Mc.mk.injEq] at hst
            obtain ⟨-, ⟨-, -, -, -, -, -, -, hu1⟩, -⟩ := hst
            subst hu1
            have qe : (u1 != 0) = true := by rw [bne_iff_ne]; exact hu
            have HRR := hide hr
            have qn : decide ((N1 : Int) ≤ 7) = true := decide_eq_true (by omega)
            have hle2 : (N1 : Int) ≤ 7 := by omega
            clear hr hle
            obtain ⟨w4, e4, hb4, M4⟩ := box_res wr ko po so co bo to_ xo u1
            have HE4 := hide e4
            have M4 := hide M4
            clear e4
            have HC4 := hide (HA.out.1.at_.mem.below hb4)
            have hB5 := bcall HBW.out hb4
            have y0_ := keepc hb4 y0
            go_upto_region 14 with (fail)
            rw [HE4.out]
            obtain ⟨z0, z1, z2, z3, z4, z5, z6, z7⟩ := M4.out.cells
            go_wp2_with fail
            (with_reducible refine (run_cu ko po so co bo to_ xo u1 _ d.m _ HC4.out HBG.out HA.out.1.wu.m HMD.out 7 M1 k1 p1 s1 c1 b1 t1 x1 u1 N1 HRR.out (n + 2) HLM.out (by decide) 7 (N1 : Int) rfl rfl).mono ?_)
            rintro e w5 ⟨A5, c5, rfl, -, -, -, hb5, -, -⟩
            have hB6 := bcall hB5 hb5
            have M5 := hide (M4.out.below hb5)
            obtain ⟨w7, e7, hb7, M7⟩ := box_res w5 k1 p1 s1 c1 b1 t1 x1 u1
            have HE7 := hide e7
            have M7 := hide M7
            clear e7
            have M5 := hide (M5.out.below hb7)
            have hB7 := bcall hB6 hb7
            clear z0 z1 z2 z3 z4 z5 z6 z7
            go_upto_region 15 with (fail)
            rw [HE7.out]
            obtain ⟨z0, z1, z2, z3, z4, z5, z6, z7⟩ := M5.out.cells
            obtain ⟨v0, v1, v2, v3, v4, v5, v6, v7⟩ := M7.out.cells
            go_wp2
            go_ret
            exact ⟨rfl, hB7⟩
    · have hltf : ¬ ((X : Int) < (lb.length : Int)) := by omega
      have hlM : d.m.length = n + 2 := HA.out.1.wu.len
      obtain ⟨AM, cM, rfl, hM1, hM2⟩ := cells_form' HA.out.1.at_.mem
      rw [hlM] at HA hM1
      have HLM := hide hlM
      clear hlM
      have y0 : wr.cell? ⟨w1_.heap.size, 0, none⟩ = some (.slice AM (n + 2) cM) := HA.out.1.at_.cell 0
      have y10 : wr.cell? ⟨w1_.heap.size, 10, none⟩ = some (.slice (some ⟨gT, 0, none⟩) 3 ct) := HA.out.1.at_.cell 10
      obtain ⟨oo, hoo⟩ : ∃ oo, d.owner = oo := ⟨_, rfl⟩
      obtain ⟨ko, po, so, co, bo, to_, xo, uo⟩ := oo
      have HO := hide hoo
      obtain ⟨a2_, a3, a4, a5, a6, a7, a8, a9⟩ := own_cells HA.out.1.at_ hoo
      have HBG := hide (show d.m.length * 8 ≤ 140737488351232 by rw [HLM.out]; omega)
      have hneT := HA.out.1.at_.neT
      have hneT' := hneT.symm
      have hltB := HA.out.1.at_.ltB
      have hltG := HA.out.1.at_.ltG
      have HGD := hide HA.out.2
      clear hoo
      by_cases hwho : a2 % 4 < 3
      · obtain ⟨j, hj⟩ : ∃ j : Nat, a2 % 4 = (j : Int) := ⟨(a2 % 4).toNat, by omega⟩
        have hj3 : j < 3 := by omega
        have hji : (j : Int) < 3 := by omega
        have hj2 : a2.tmod 4 = (j : Int) := by rw [Int.tmod_eq_emod_of_nonneg hw1]; exact hj
        have dj : decide ((j : Int) < 3) = true := decide_eq_true hji
        obtain ⟨td_, htd⟩ : ∃ t, d.th[j]? = some t := ⟨d.th[j]'(by rw [HA.out.1.wu.th3]; exact hj3), List.getElem?_eq_getElem _⟩
        have hmd := HA.out.1.wu.th td_ (List.mem_of_getElem? htd)
        have hE : td_.out = 0 ∧ Ends 4 d.m td_ := by
          obtain ⟨⟨t, bt, e, ps, H, hin, -⟩, -, -, -⟩ := HGD.out
          exact thief_ends (hin.th td_ (List.mem_of_getElem? htd)) d.m
        obtain ⟨kd, pd, sd, cd, bd, td, xd, ud⟩ := td_
        obtain ⟨hud, hen⟩ := hE
        simp only at hud
        subst hud
        have HEND := hide hen
        have HMD := hide hmd
        obtain ⟨g0, g1, g2, g3, g4, g5, g6, g7⟩ := th_cell HA.out.1.at_ hj3 htd
        clear hen hmd htd hwho
        obtain ⟨r, hr⟩ : ∃ r, runF 4 d.m ⟨kd, pd, sd, cd, bd, td, xd, 0⟩ = r := ⟨_, rfl⟩
        have hle := run_le 4 d.m ⟨kd, pd, sd, cd, bd, td, xd, 0⟩
        rw [hr] at hle
        have hend := HEND.out
        unfold Ends at hend
        rw [hr] at hend
        obtain ⟨M1, ⟨k1, p1, s1, c1, b1, t1, x1, u1⟩, N1⟩ := r
        simp only at hle hend
        obtain ⟨hu1, hp1⟩ := hend
        have qe : (u1 != 0) = true := by rw [bne_iff_ne]; exact hu1
        have qp : decide (pd < p1) = true := decide_eq_true hp1
        have HRR := hide hr
        have qn : decide ((N1 : Int) ≤ 4) = true := decide_eq_true (by omega)
        have hle2 : (N1 : Int) ≤ 4 := by omega
        clear hr hle
        obtain ⟨w4, e4, hb4, M4⟩ := box_res wr kd pd sd cd bd td xd 0
        have HE4 := hide e4
        have M4 := hide M4
        clear e4
        have HC4 := hide (HA.out.1.at_.mem.below hb4)
        have hB5 := bcall HBW.out hb4
        have y0_ := keepc hb4 y0
        go_upto_region 14 with (fail)
        rw [HE4.out]
        obtain ⟨z0, z1, z2, z3, z4, z5, z6, z7⟩ := M4.out.cells
        go_wp2_with fail
        (with_reducible refine (run_cu kd pd sd cd bd td xd 0 _ d.m _ HC4.out HBG.out HA.out.1.wu.m HMD.out 4 M1 k1 p1 s1 c1 b1 t1 x1 u1 N1 HRR.out (n + 2) HLM.out (by decide) 4 (N1 : Int) rfl rfl).mono ?_)
        rintro e w5 ⟨A5, c5, rfl, -, -, -, hb5, -, -⟩
        have hB6 := bcall hB5 hb5
        have M5 := hide (M4.out.below hb5)
        obtain ⟨w7, e7, hb7, M7⟩ := box_res w5 k1 p1 s1 c1 b1 t1 x1 u1
        have HE7 := hide e7
        have M7 := hide M7
        clear e7
        have M5 := hide (M5.out.below hb7)
        have hB7 := bcall hB6 hb7
        clear z0 z1 z2 z3 z4 z5 z6 z7
        go_upto_region 15 with (fail)
        rw [HE7.out]
        obtain ⟨z0, z1, z2, z3, z4, z5, z6, z7⟩ := M5.out.cells
        obtain ⟨v0, v1, v2, v3, v4, v5, v6, v7⟩ := M7.out.cells
        have qd : ((0 : Int) != 0) = false := rfl
        go_wp2
        go_ret
        exact ⟨rfl, hB7⟩
      · have hwn : ¬ a2.tmod 4 < 3 := by rw [Int.tmod_eq_emod_of_nonneg hw1]; exact hwho
        have dw : decide (a2 % 4 < 3) = false := decide_eq_false hwho
        have hmd : McU ⟨ko, po, so, co, bo, to_, xo, uo⟩ := by rw [← HO.out]; exact HA.out.1.wu.o
        have HMD := hide hmd
        clear hmd
        by_cases hu : uo = 0
        · subst hu
          have HEND := hide (show Ends 7 d.m ⟨ko, po, so, co, bo, to_, xo, 0⟩ by
            obtain ⟨⟨t, bt, e, ps, H, hin, -⟩, -, -, -⟩ := HGD.out
            have := hin.own
            rw [HO.out] at this
            exact owner_ends this d.m rfl)
          obtain ⟨r, hr⟩ : ∃ r, runF 7 d.m ⟨ko, po, so, co, bo, to_, xo, 0⟩ = r := ⟨_, rfl⟩
          have hle := run_le 7 d.m ⟨ko, po, so, co, bo, to_, xo, 0⟩
          rw [hr] at hle
          have hend := HEND.out
          unfold Ends at hend
          rw [hr] at hend
          obtain ⟨M1, ⟨k1, p1, s1, c1, b1, t1, x1, u1⟩, N1⟩ := r
          simp only at hle hend
          obtain ⟨hu1, hp1⟩ := hend
          have qe : (u1 != 0) = true := by rw [bne_iff_ne]; exact hu1
          have qp : decide (po < p1) = true := decide_eq_true hp1
          have HRR := hide hr
          have qn : decide ((N1 : Int) ≤ 7) = true := decide_eq_true (by omega)
          have hle2 : (N1 : Int) ≤ 7 := by omega
          clear hr hle
          obtain ⟨w4, e4, hb4, M4⟩ := box_res wr ko po so co bo to_ xo 0
          have HE4 := hide e4
          have M4 := hide M4
          clear e4
          have HC4 := hide (HA.out.1.at_.mem.below hb4)
          have hB5 := bcall HBW.out hb4
          have y0_ := keepc hb4 y0
          go_upto_region 14 with (fail)
          rw [HE4.out]
          obtain ⟨z0, z1, z2, z3, z4, z5, z6, z7⟩ := M4.out.cells
          go_wp2_with fail
          (with_reducible refine (run_cu ko po so co bo to_ xo 0 _ d.m _ HC4.out HBG.out HA.out.1.wu.m HMD.out 7 M1 k1 p1 s1 c1 b1 t1 x1 u1 N1 HRR.out (n + 2) HLM.out (by decide) 7 (N1 : Int) rfl rfl).mono ?_)
          rintro e w5 ⟨A5, c5, rfl, -, -, -, hb5, -, -⟩
          have hB6 := bcall hB5 hb5
          have M5 := hide (M4.out.below hb5)
          obtain ⟨w7, e7, hb7, M7⟩ := box_res w5 k1 p1 s1 c1 b1 t1 x1 u1
          have HE7 := hide e7
          have M7 := hide M7
          clear e7
          have M5 := hide (M5.out.below hb7)
          have hB7 := bcall hB6 hb7
          clear z0 z1 z2 z3 z4 z5 z6 z7
          go_upto_region 15 with (fail)
          rw [HE7.out]
          obtain ⟨z0, z1, z2, z3, z4, z5, z6, z7⟩ := M5.out.cells
          obtain ⟨v0, v1, v2, v3, v4, v5, v6, v7⟩ := M7.out.cells
          have qd : ((0 : Int) != 0) = false := rfl
          go_wp2
          go_ret
          exact ⟨rfl, hB7⟩
        · have qo : (uo != 0) = true := by rw [bne_iff_ne]; exact hu
          obtain ⟨r, hr⟩ : ∃ r, runF 7 d.m ⟨ko, po, so, co, bo, to_, xo, uo⟩ = r := ⟨_, rfl⟩
          have hle := run_le 7 d.m ⟨ko, po, so, co, bo, to_, xo, uo⟩
          rw [hr] at hle
          have hst := run_stop 7 d.m ⟨ko, po, so, co, bo, to_, xo, uo⟩ hu
          rw [hr] at hst
          obtain ⟨M1, ⟨k1, p1, s1, c1, b1, t1, x1, u1⟩, N1⟩ := r
          simp only at hle
          simp only [Prod.mk.injEq, Mc.mk.injEq] at hst
          obtain ⟨-, ⟨-, -, -, -, -, -, -, hu1⟩, -⟩ := hst
          subst hu1
          have qe : (u1 != 0) = true := by rw [bne_iff_ne]; exact hu
          have HRR := hide hr
          have qn : decide ((N1 : Int) ≤ 7) = true := decide_eq_true (by omega)
          have hle2 : (N1 : Int) ≤ 7 := by omega
          clear hr hle
          obtain ⟨w4, e4, hb4, M4⟩ := box_res wr ko po so co bo to_ xo u1
          have HE4 := hide e4
          have M4 := hide M4
          clear e4
          have HC4 := hide (HA.out.1.at_.mem.below hb4)
          have hB5 := bcall HBW.out hb4
          have y0_ := keepc hb4 y0
          go_upto_region 14 with (fail)
          rw [HE4.out]
          obtain ⟨z0, z1, z2, z3, z4, z5, z6, z7⟩ := M4.out.cells
          go_wp2_with fail
          (with_reducible refine (run_cu ko po so co bo to_ xo u1 _ d.m _ HC4.out HBG.out HA.out.1.wu.m HMD.out 7 M1 k1 p1 s1 c1 b1 t1 x1 u1 N1 HRR.out (n + 2) HLM.out (by decide) 7 (N1 : Int) rfl rfl).mono ?_)
          rintro e w5 ⟨A5, c5, rfl, -, -, -, hb5, -, -⟩
          have hB6 := bcall hB5 hb5
          have M5 := hide (M4.out.below hb5)
          obtain ⟨w7, e7, hb7, M7⟩ := box_res w5 k1 p1 s1 c1 b1 t1 x1 u1
          have HE7 := hide e7
          have M7 := hide M7
          clear e7
          have M5 := hide (M5.out.below hb7)
          have hB7 := bcall hB6 hb7
          clear z0 z1 z2 z3 z4 z5 z6 z7
          go_upto_region 15 with (fail)
          rw [HE7.out]
          obtain ⟨z0, z1, z2, z3, z4, z5, z6, z7⟩ := M5.out.cells
          obtain ⟨v0, v1, v2, v3, v4, v5, v6, v7⟩ := M7.out.cells
          go_wp2
          go_ret
          exact ⟨rfl, hB7⟩

set_option maxRecDepth 100000 in
theorem lifted (os : Os) (started : os.Started) (H : Type) (enc : TypeId × Value → H) :
    ReturnsInHanded {} Try.checked os 7 .any (Rows.dequeStopsSpec.pre6 enc Try.prog Try.f7 Rows.dequeStopsRow.domain false) (Rows.dequeStopsSpec.post enc Try.prog Try.f7 false true false false) := by
  refine returnsInHanded_of_change_sized (C := Try.checked) ownL started (by kernel_rfl) Try.func7
    (ChangeSpec.witness6 (enc := enc) (C := Try.checked) false ⟨#[], #[.int .u8 0, .slice none 0 0, .int .u8 0], []⟩ 8 (by kernel_rfl) (by kernel_rfl) (by kernel_rfl) (by kernel_rfl)) ?_
  intro W base args ds gs before hval hW _ hsz0 _
  have hW' := hW
  obtain ⟨p, q, hA0, hV, rfl, hfz, hnd⟩ := hW
  have hA : DataW.TrodAll enc Try.prog W 0 (fun _ => true) true Try.f7.params.toList args.toList ds p := hA0
  rw [Try.params7] at hA hval
  obtain ⟨v0, vs0, d0, ds0, p0, q0, hargs, rfl, rfl, h0, r0⟩ := trodAll_cons hA
  obtain ⟨v1, vs1, d1, ds1, p1, q1, rfl, rfl, rfl, h1, r1⟩ := trodAll_cons r0
  obtain ⟨v2, vs2, d2, ds2, p2, q2, rfl, rfl, rfl, h2, r2⟩ := trodAll_cons r1
  obtain ⟨rfl, rfl, rfl⟩ := trodAll_nil r2
  obtain rfl : args = #[v0, v1, v2] := by cases args; simp_all
  obtain ⟨rfl, rfl⟩ := trodVars_none hV
  obtain ⟨a0, rfl, rfl, rfl, w0⟩ := open_int Try.underlying5 (hval 0 5 v0 rfl rfl) h0
  have hx0 : 0 ≤ a0 ∧ a0 ≤ 255 := by simpa [Lit.wf, IntKind.min, IntKind.max, IntKind.signed, IntKind.bits] using w0
  obtain ⟨l1, hl1, hq1, hd1⟩ := open_bytes (hval 1 43 v1 rfl rfl) h1
  obtain ⟨a2, rfl, rfl, rfl, w2⟩ := open_int Try.underlying5 (hval 2 5 v2 rfl rfl) h2
  have hx2 : 0 ≤ a2 ∧ a2 ≤ 255 := by simpa [Lit.wf, IntKind.min, IntKind.max, IntKind.signed, IntKind.bits] using w2
  have hsz : (DataW.weightsEach Try.prog [5, 43, 5] ([.lit (.int .u8 a0), d1, .lit (.int .u8 a2)] : List (DataW H))).all (· ≤ reachBytes) = true := hsz0
  have e1 : l1.length * 1 ≤ 140737488351232 := slice_reach hsz 1 rfl rfl Try.underlying43 (by kernel_rfl) hd1
  refine (walk a0 v1 l1 a2 W hl1 hq1 hx0 hx2).mono fun e W' ⟨he, hg⟩ => ?_
  subst he
  exact ⟨_, rfl, law_post laidOutL (by kernel_rfl) rfl Try.underlying4 rfl ⟨rfl, rfl, rfl⟩ hW' hg⟩

/-- THE STATEMENT -/
theorem proved : Rows.DequeStopsSaid :=
  OpenClaim.holds_of_wide 7 Try.f7 rfl rfl rfl rfl rfl rfl rfl ⟨rfl, rfl, rfl, rfl, rfl⟩ rfl rfl rfl rfl rfl (by kernel_rfl) Try.func7 (by kernel_rfl)
    (of_decide_eq_true (by kernel_rfl)) (by unfold Func.isWrapper; first | (rw [if_pos (by decide +kernel)]; kernel_rfl) | (rw [if_neg (by decide +kernel)]; exact ⟨rfl, rfl⟩))
    (fun os started H enc _ => lifted os started H enc)
end Go.Proofs.Ythjdjkcdlknhbaa.lawDequeStops
