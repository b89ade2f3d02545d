/- DequeOnce: for any size, any schedule by bytes: at each step what was pushed is in the deque, or the owner has it, or it was popped, or stolen: once. No condition. -/
import Derived.Test.YthjdjkcdlknhbaaDequeHeld
import Derived.Deep.CutRange
namespace Go.Proofs.Ythjdjkcdlknhbaa.lawDequeOnce
open Go.RowKit Go.WideShapes Go.ChangeShapes Go.ChangeAt Go.Proofs Go.Proofs.Ythjdjkcdlknhbaa

theorem goodup {n X : Nat} {l : Int} {d : Dw} (h : Good n (2 * X + 1 + 2) l d) : Good n (2 * (X + 1) + 1) l d := by
  have e : 2 * (X + 1) + 1 = 2 * X + 1 + 2 := by omega
  rw [e]; exact h
theorem sum_K {a b : List Int} (ha : AllK a) (hb : AllK b) : AllK (sumB a b) := fun x hx => by
  have h := List.count_pos_iff.2 hx
  rw [sum_count] at h
  by_cases h1 : 0 < a.count x
  · exact ha x (List.count_pos_iff.1 h1)
  · exact hb x (List.count_pos_iff.1 (by omega))
theorem items_K (m : List Int) (b n : Int) (o : Mc) : AllK (itemsF m b n o) := fun x hx => by
  unfold itemsF at hx
  simp only at hx
  split at hx
  · simp at hx
  · obtain ⟨k, -, rfl⟩ := List.mem_map.1 hx
    exact s64_I _
theorem held_K {m : List Int} {n : Int} {o : Mc} (hx : Kw o.x) : AllK (heldF m n o) := fun y hy => by
  unfold heldF at hy
  split at hy
  · simp at hy
  · split at hy
    · simp at hy; subst hy; exact hx
    · split at hy
      · simp at hy; subst hy; exact s64_I _
      · simp at hy
theorem held_len (m : List Int) (n : Int) (o : Mc) : (heldF m n o).length ≤ 1 := by
  unfold heldF
  split
  · simp
  · split
    · simp
    · split <;> simp
set_option maxRecDepth 100000 in
set_option maxHeartbeats 40000000 in
theorem walk (a0 : Int) (v : Value) (lb : List Int) (w : World) (h : Bytes w v lb) (hlb : ∀ p ∈ lb, 0 ≤ p ∧ p ≤ 255) (ha : 0 ≤ a0 ∧ a0 ≤ 255) : Calls Try.prog 4 #[.int .u8 a0, v] w fun e w' => e = .returned (.bool true) ∧ Below w.heap.size w w' := by
  have hB : Below w.heap.size w w := Below.refl _ _
  obtain ⟨Ab, cb, rfl, hcb1, hcb2, -⟩ := id h
  unfold maxLen at hcb2
  have GB := hide h
  have HLB := hide hlb
  obtain ⟨n, hn⟩ : ∃ n : Nat, 1 + a0 % 4 = (n : Int) := ⟨(1 + a0 % 4).toNat, by omega⟩
  have hn1 : 1 ≤ n ∧ n ≤ 4 := by omega
  obtain ⟨ha1, ha2_⟩ := ha
  have hn2 : 1 + a0.tmod 4 = (n : Int) := by rw [Int.tmod_eq_emod_of_nonneg ha1]; exact hn
  clear h hlb
  go_enter Try.func4, Try.ntmps4
  go_wp2_with fail
  (with_reducible refine (examples_any _).mono ?_)
  rintro e w0_ ⟨rfl, hb0_⟩
  have hB := bcall hB hb0_
  go_wp2_with fail
  (with_reducible refine (start_any n hn1.1 (by omega) _).mono ?_)
  rintro e w1_ ⟨A0, c0, gT, ct, rfl, ⟨p0, q0⟩, ⟨p1, q1⟩, HC0, HT0, hb1_, HNE, HGE⟩
  have hB := bcall hB hb1_
  obtain ⟨w3, e3⟩ : ∃ w3, w1_.alloc (.cells #[.slice A0 (n + 2) c0, .int .i64 n, .int .i64 0, .int .i64 0, .int .i64 0, .int .i64 0, .int .u64 0, .int .u64 0, .int .i64 0, .int .i64 1, .slice (some ⟨gT, 0, none⟩) 3 ct, .slice none 0 0, .slice none 0 0, .int .i64 1] 47) = w3 := ⟨_, rfl⟩
  have hb3 : Below w1_.heap.size w1_ w3 := by rw [← e3]; exact bal _ _
  have HW3 := hide (start_wat HC0 HT0 HNE ⟨hn1.1, by omega⟩ e3)
  have HE3 := hide e3
  have hB3 := bcall hB hb3
  have hBs : w.heap.size ≤ w1_.heap.size := hB.size
  have hB4 : w.heap.size ≤ w3.heap.size := hB3.size
  have hGs : w.heap.size ≤ gT := Nat.le_trans (hb0_.size) HGE
  have HGS := hide (good_start (cap := n) hn1.1 (by omega))
  have HWS := hide (wu_start n (by omega))
  clear e3 HC0 HT0 HNE HGE hb3
  go_wp2
  go_loopw [7] (fun iv wr => ∃ (X : Nat) (d : Dw) (vM vP vG : Value), X ≤ 400 ∧ iv = .int .i64 X ∧ Hid (SpAt w3 w1_.heap.size gT ct n (n + 2) X d vM vP vG wr ∧ Good n (2 * X + 1) 0 d)) (fun iv _ => 400 - (Go.RowKit.intOf iv).toNat)
  case atStart =>
    rw [HE3.out]
    exact ⟨0, _, _, _, _, by omega, rfl, hide ⟨⟨HW3.out, Fr.refl, HWS.out⟩, HGS.out⟩⟩
  case round =>
    obtain ⟨X, d, vM, vP, vG, hX, rfl, HA⟩ := hrel
    have HBW := hide (Fr.below hB3 HA.out.1.fr hB4 hBs hGs)
    by_cases hlt : X < lb.length
    · by_cases h400 : X < 400
      · obtain ⟨bg, bo_, rfl, d0⟩ := bytes_at (GB.out.below HBW.out) hlt
        have hy := HLB.out _ (List.getElem_mem hlt)
        obtain ⟨y, hyy⟩ : ∃ y, lb[X] = y := ⟨_, rfl⟩
        rw [hyy] at d0 hy
        clear hyy
        obtain ⟨b, rfl⟩ : ∃ b : Nat, y = (b : Int) := ⟨y.toNat, by omega⟩
        have hb255 : b ≤ 255 := by omega
        have hlimi : (X : Int) < 400 := by omega
        go_wp2_with fail
        (with_reducible refine (wstep_any w1_.heap.size gT ct n (2 * X + 1) (n + 2) d vM vP vG _ HA.out.1.at_ HA.out.1.wu (by omega) (by omega) (by omega) b hb255).mono ?_)
        rintro e w6 ⟨vM', vP', vG', rfl, hW6, hF6⟩
        obtain ⟨dd, hdd⟩ : ∃ dd, stepW n b d = dd := ⟨_, rfl⟩
        have HS2 := hide (show SpAt w3 w1_.heap.size gT ct n (n + 2) (X + 1) dd vM' vP' vG' w6 by
          have e : 2 * (X + 1) + 1 = 2 * X + 1 + 2 := by omega
          rw [← hdd]
          refine ⟨hW6, HA.out.1.fr.trans hF6, ?_⟩
          rw [e]; exact wu_step n (by omega) HA.out.1.wu (by omega) b)
        have HG2 := hide (show Good n (2 * (X + 1) + 1) 0 dd by rw [← hdd]; exact goodup (good_step HA.out.2 (by omega) b (Int.le_refl _)))
        clear hW6 hF6 hdd d0
        have hon := good_once HG2.out (by omega)
        obtain ⟨inn, hHin⟩ : ∃ l, itemsF dd.m 0 n dd.owner = l := ⟨_, rfl⟩
        obtain ⟨hel, hHel⟩ : ∃ l, heldF dd.m n dd.owner = l := ⟨_, rfl⟩
        have HKI := hide (show AllK inn by rw [← hHin]; exact items_K _ _ _ _)
        have HKH := hide (show AllK hel by rw [← hHel]; exact held_K HS2.out.wu.o.x)
        have hhl := held_len dd.m n dd.owner
        rw [hHel] at hhl
        rw [hHin, hHel] at hon
        have hil : inn.length ≤ n := hon.2.1
        have HSAME := hide hon.1
        obtain ⟨NI, hNI⟩ : ∃ NI, inn.length = NI := ⟨_, rfl⟩
        obtain ⟨NH, hNH⟩ : ∃ NH, hel.length = NH := ⟨_, rfl⟩
        obtain ⟨s1, hs1⟩ : ∃ s1, sumB inn hel = s1 := ⟨_, rfl⟩
        obtain ⟨s2, hs2⟩ : ∃ s2, sumB s1 dd.got = s2 := ⟨_, rfl⟩
        have HK1 := hide (show AllK s1 by rw [← hs1]; exact sum_K HKI.out HKH.out)
        have HK2 := hide (show AllK s2 by rw [← hs2]; exact sum_K HK1.out HS2.out.wu.kg)
        have hl1 : s1.length = NI + NH := by rw [← hs1, sum_len, hNI, hNH]
        have hl2 : s2.length = NI + NH + dd.got.length := by rw [← hs2, sum_len, hl1]
        rw [hNI] at hil
        rw [hNH] at hhl
        rw [hs1, hs2] at HSAME
        have hlg := HS2.out.wu.lg
        have hlp := HS2.out.wu.lp
        have HNI := hide hNI
        have HNH := hide hNH
        have HS1 := hide hs1
        have HSS2 := hide hs2
        have HL1 := hide hl1
        have HL2 := hide hl2
        have HHE := hide hHel
        obtain ⟨oo, hoo⟩ : ∃ oo, dd.owner = oo := ⟨_, rfl⟩
        obtain ⟨ko, po, so, co, bo, to_, xo, uo⟩ := oo
        rw [hoo] at hHin
        have HIN2 := hide hHin
        obtain ⟨AM, cM, rfl, hM1, hM2⟩ := cells_form' HS2.out.at_.mem
        obtain ⟨Ap, cp, rfl, hp1, hp2⟩ := ints_form' HS2.out.at_.pus
        obtain ⟨Ag, cg, rfl, hg1, hg2⟩ := ints_form' HS2.out.at_.got
        obtain ⟨NP, hNP⟩ : ∃ NP, dd.pushed.length = NP := ⟨_, rfl⟩
        obtain ⟨NG, hNG⟩ : ∃ NG, dd.got.length = NG := ⟨_, rfl⟩
        obtain ⟨NM, hNM⟩ : ∃ NM, dd.m.length = NM := ⟨_, rfl⟩
        rw [hNG] at hlg hg1
        rw [hNP] at hlp hp1
        rw [hNM] at hM1
        have HGLn := hide hNG
        have HPLn := hide hNP
        have hw1_ := HS2.out.at_
        rw [hNG, hNP, hNM] at HS2 hw1_
        have HMLn := hide hNM
        have y0 : w6.cell? ⟨w1_.heap.size, 0, none⟩ = some (.slice AM NM cM) := hw1_.cell 0
        have y1 : w6.cell? ⟨w1_.heap.size, 1, none⟩ = some (.int .i64 n) := hw1_.cell 1
        obtain ⟨a2, a3, a4, a5, a6, a7, a8, a9⟩ := own_cells hw1_ hoo
        have HC7 := hide hw1_.mem
        have HBG := hide (show dd.m.length * 8 ≤ 140737488351232 by rw [HS2.out.wu.len]; omega)
        have HI6 := hide (show I6 (n : Int) by unfold I6; omega)
        have dcap : decide ((n : Int) < (NI : Int)) = false := decide_eq_false (by omega)
        have hcap : ¬ ((n : Int) < (NI : Int)) := by omega
        have dcap2 : decide (n < NI) = false := decide_eq_false (by omega)
        clear hon hHin hHel hoo hNI hNH hs1 hs2 hl1 hl2 hNP hNG hNM hw1_
        go_wp2_with fail
        (with_reducible refine (Items_any ko po so co bo to_ xo uo _ dd.m 0 n _ HC7.out HS2.out.wu.m HBG.out (by unfold I6; omega) HI6.out inn HIN2.out NI HNI.out).mono ?_)
        rintro e w8 ⟨A8, c8, rfl, ⟨hd1, hd2⟩, J8, hb8⟩
        have HS8 := hide (show SpAt w3 w1_.heap.size gT ct n (n + 2) (X + 1) dd (.slice AM NM cM) (.slice Ap NP cp) (.slice Ag NG cg) w8 from ⟨HS2.out.at_.below hb8, HS2.out.fr.trans (Fr.of_below hb8), HS2.out.wu⟩)
        have HJ := hide (ints_drew J8)
        have HWD := hide HS8.out.at_.drew
        clear y0 y1 a2 a3 a4 a5 a6 a7 a8 a9 J8 hb8
        have y1 : w8.cell? ⟨w1_.heap.size, 1, none⟩ = some (.int .i64 n) := HS8.out.at_.cell 1
        have y11 : w8.cell? ⟨w1_.heap.size, 11, none⟩ = some (.slice Ap NP cp) := HS8.out.at_.cell 11
        have y12 : w8.cell? ⟨w1_.heap.size, 12, none⟩ = some (.slice Ag NG cg) := HS8.out.at_.cell 12
        go_upto_region 10 with (fail)
        go_cut [55] from 39 to 55 (fun tv wx => tv = .bool false ∧ Hid (SpAt w3 w1_.heap.size gT ct n (n + 2) (X + 1) dd (.slice AM NM cM) (.slice Ap NP cp) (.slice Ag NG cg) wx))
        case first =>
          go_region_law (first
            | (go_simp; go_at_call 24; (with_reducible refine (held_any _ gT ct n dd _ _ _ _ HWD.out hn1.1 (by omega) HS8.out.wu.m HBG.out HS8.out.wu.o hel HHE.out NH HNH.out).mono ?_); rintro e w9 ⟨A9, c9, rfl, ⟨hh1, hh2⟩, J9, hb9⟩; have HWc := hide (HWD.out.below hb9); have HJ9 := hide J9; have HJ := hide (HJ.out.below hb9); have hb89 := undrew hb9; clear y1 y11 y12 J9 hb9; have y1 : w9.cell? ⟨w1_.heap.size, 1, none⟩ = some (.int .i64 n) := HWc.out.cell 1; have y11 : w9.cell? ⟨w1_.heap.size, 11, none⟩ = some (.slice Ap NP cp) := HWc.out.cell 11; have y12 : w9.cell? ⟨w1_.heap.size, 12, none⟩ = some (.slice Ag NG cg) := HWc.out.cell 12)
            | (go_simp; go_at_call 23; (with_reducible refine (Sum_c _ _ inn hel _ HJ.out HJ9.out HKI.out HKH.out (by rw [HNI.out, HNH.out]; omega) s1 HS1.out (NI + NH) HL1.out).mono ?_); rintro e w10 ⟨A10, c10, rfl, ⟨hi1, hi2⟩, J10, hb10⟩; have HWc := hide (HWc.out.below hb10); have HJ10 := hide J10; have hb810 := bcall hb89 hb10; clear y1 y11 y12 J10 hb10; have y1 : w10.cell? ⟨w1_.heap.size, 1, none⟩ = some (.int .i64 n) := HWc.out.cell 1; have y11 : w10.cell? ⟨w1_.heap.size, 11, none⟩ = some (.slice Ap NP cp) := HWc.out.cell 11; have y12 : w10.cell? ⟨w1_.heap.size, 12, none⟩ = some (.slice Ag NG cg) := HWc.out.cell 12)
            | (go_simp; go_at_call 23; (with_reducible refine (Sum_c _ _ s1 dd.got _ HJ10.out HWc.out.got HK1.out HS8.out.wu.kg (by rw [HL1.out, HGLn.out]; omega) s2 HSS2.out (NI + NH + NG) (HL2.out.trans (by rw [HGLn.out]))).mono ?_); rintro e w11 ⟨A11, c11, rfl, ⟨hk1, hk2⟩, J11, hb11⟩; have HWc := hide (HWc.out.below hb11); have HJ11 := hide J11; have hb811 := bcall hb810 hb11; clear y1 y11 y12 J11 hb11; have y1 : w11.cell? ⟨w1_.heap.size, 1, none⟩ = some (.int .i64 n) := HWc.out.cell 1; have y11 : w11.cell? ⟨w1_.heap.size, 11, none⟩ = some (.slice Ap NP cp) := HWc.out.cell 11; have y12 : w11.cell? ⟨w1_.heap.size, 12, none⟩ = some (.slice Ag NG cg) := HWc.out.cell 12)
            | (go_simp; go_at_call 22; (with_reducible refine (Same_c _ _ dd.pushed s2 _ HWc.out.pus HJ11.out HS8.out.wu.kp HK2.out (by rw [HPLn.out]; omega) (by rw [HL2.out, HGLn.out]; omega) true HSAME.out).mono ?_); rintro e w12 ⟨rfl, hb12⟩; have HWc := hide (HWc.out.below hb12); have hb812 := bcall hb811 hb12; clear y1 y11 y12 hb12; have y1 : w12.cell? ⟨w1_.heap.size, 1, none⟩ = some (.int .i64 n) := HWc.out.cell 1; have y11 : w12.cell? ⟨w1_.heap.size, 11, none⟩ = some (.slice Ap NP cp) := HWc.out.cell 11; have y12 : w12.cell? ⟨w1_.heap.size, 12, none⟩ = some (.slice Ag NG cg) := HWc.out.cell 12))
          all_goals
            have HN := hide (show SpAt w3 w1_.heap.size gT ct n (n + 2) (X + 1) dd (.slice AM NM cM) (.slice Ap NP cp) (.slice Ag NG cg) w12 from ⟨HWc.out, HS8.out.fr.trans (Fr.of_below hb812), HS8.out.wu⟩)
            go_wp2_with fail
            go_meet
          all_goals
            exact ⟨rfl, HN⟩
        case rest =>
          obtain ⟨rfl, HN⟩ := hcut
          have HN2 := hide (And.intro HN.out HG2.out)
          go_wp2
          go_roundw
          case rel => exact ⟨X + 1, dd, _, _, _, by omega, by go_num, HN2⟩
          case measure => simp [Go.RowKit.intOf]; omega
      · have h400f : ¬ ((X : Int) < 400) := by omega
        have hBf := HBW.out
        go_wp2
        go_ret
        exact ⟨rfl, hBf⟩
    · have hltf : ¬ ((X : Int) < (lb.length : Int)) := by omega
      have hBf := HBW.out
      go_wp2
      go_ret
      exact ⟨rfl, hBf⟩

set_option maxRecDepth 100000 in
theorem lifted (os : Os) (started : os.Started) (H : Type) (enc : TypeId × Value → H) :
    ReturnsInHanded {} Try.checked os 4 .any (Rows.dequeOnceSpec.pre6 enc Try.prog Try.f4 Rows.dequeOnceRow.domain false) (Rows.dequeOnceSpec.post enc Try.prog Try.f4 false true false false) := by
  refine returnsInHanded_of_change_sized (C := Try.checked) ownL started (by kernel_rfl) Try.func4
    (ChangeSpec.witness6 (enc := enc) (C := Try.checked) false ⟨#[], #[.int .u8 0, .slice none 0 0], []⟩ 8 (by kernel_rfl) (by kernel_rfl) (by kernel_rfl) (by kernel_rfl)) ?_
  intro W base args ds gs before hval hW _ hsz0 _
  have hW' := hW
  obtain ⟨p, q, hA0, hV, rfl, hfz, hnd⟩ := hW
  have hA : DataW.TrodAll enc Try.prog W 0 (fun _ => true) true Try.f4.params.toList args.toList ds p := hA0
  rw [Try.params4] at hA hval
  obtain ⟨v0, vs0, d0, ds0, p0, q0, hargs, rfl, rfl, h0, r0⟩ := trodAll_cons hA
  obtain ⟨v1, vs1, d1, ds1, p1, q1, rfl, rfl, rfl, h1, r1⟩ := trodAll_cons r0
  obtain ⟨rfl, rfl, rfl⟩ := trodAll_nil r1
  obtain rfl : args = #[v0, v1] := by cases args; simp_all
  obtain ⟨rfl, rfl⟩ := trodVars_none hV
  obtain ⟨a0, rfl, rfl, rfl, w0⟩ := open_int Try.underlying5 (hval 0 5 v0 rfl rfl) h0
  have hx0 : 0 ≤ a0 ∧ a0 ≤ 255 := by simpa [Lit.wf, IntKind.min, IntKind.max, IntKind.signed, IntKind.bits] using w0
  obtain ⟨l1, hl1, hq1, hd1⟩ := open_bytes (hval 1 43 v1 rfl rfl) h1
  have hsz : (DataW.weightsEach Try.prog [5, 43] ([.lit (.int .u8 a0), d1] : List (DataW H))).all (· ≤ reachBytes) = true := hsz0
  have e1 : l1.length * 1 ≤ 140737488351232 := slice_reach hsz 1 rfl rfl Try.underlying43 (by kernel_rfl) hd1
  refine (walk a0 v1 l1 W hl1 hq1 hx0).mono fun e W' ⟨he, hg⟩ => ?_
  subst he
  exact ⟨_, rfl, law_post laidOutL (by kernel_rfl) rfl Try.underlying4 rfl ⟨rfl, rfl, rfl⟩ hW' hg⟩

/-- THE STATEMENT -/
theorem proved : Rows.DequeOnceSaid :=
  OpenClaim.holds_of_wide 4 Try.f4 rfl rfl rfl rfl rfl rfl rfl ⟨rfl, rfl, rfl, rfl, rfl⟩ rfl rfl rfl rfl rfl (by kernel_rfl) Try.func4 (by kernel_rfl)
    (of_decide_eq_true (by kernel_rfl)) (by unfold Func.isWrapper; first | (rw [if_pos (by decide +kernel)]; kernel_rfl) | (rw [if_neg (by decide +kernel)]; exact ⟨rfl, rfl⟩))
    (fun os started H enc _ => lifted os started H enc)
end Go.Proofs.Ythjdjkcdlknhbaa.lawDequeOnce
