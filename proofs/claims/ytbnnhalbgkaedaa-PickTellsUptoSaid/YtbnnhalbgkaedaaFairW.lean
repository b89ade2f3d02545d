/- Layer pick: Fair, the walk. -/
import Derived.Test.YtbnnhalbgkaedaaFair
namespace Go.Proofs.Ytbnnhalbgkaedaa
open Go.RowKit Go.Maps Go.WideElems

theorem fair_small (l : List PP) (n m k : Int) (h : k < 1) : fairF l n m k = false := by simp [fairF, h]
theorem fair_short (l : List PP) (n m k : Int) (h : ¬ k < 1) (h2 : (l.length : Int) < k) : fairF l n m k = true := by simp [fairF, h, h2]
theorem fair_over (l : List PP) (n m k : Int) (h : ¬ k < 1) (h2 : ¬ (l.length : Int) < k) (h3 : 16 < n ∨ 16 < m) : fairF l n m k = false := by simp [fairF, h, h2, h3]
theorem fair_yes (l : List PP) (n m : Int) (K : Nat) (h : ¬ (K : Int) < 1) (h2 : ¬ (l.length : Int) < K) (h3 : n ≤ 16) (h4 : m ≤ 16) (hall : ∀ i, i + K ≤ l.length → winOK n m ((l.drop i).take K) = true) : fairF l n m K = true := by
  unfold fairF
  rw [if_neg h, if_neg h2, if_neg (by omega)]
  rw [List.all_eq_true]
  intro i hi
  rw [List.mem_range] at hi
  exact hall i (by omega)
theorem fair_no (l : List PP) (n m : Int) (K : Nat) (h : ¬ (K : Int) < 1) (h2 : ¬ (l.length : Int) < K) (h3 : n ≤ 16) (h4 : m ≤ 16) (i : Nat) (hi : i + K ≤ l.length) (hn : winOK n m ((l.drop i).take K) = false) : fairF l n m K = false := by
  unfold fairF
  rw [if_neg h, if_neg h2, if_neg (by omega)]
  rw [List.all_eq_false]
  exact ⟨i, by rw [List.mem_range]; omega, by rw [Int.toNat_natCast, hn]; simp⟩
theorem ok_of_sz {n m : Int} {V : List PP} (h : ¬ sz (roundL n m) V < (roundL n m).length) : winOK n m V = true :=
  (sz_all _ _).1 (Nat.le_antisymm (sz_le _ _) (by omega))
theorem bad_of_sz {n m : Int} {V : List PP} (h : sz (roundL n m) V < (roundL n m).length) : winOK n m V = false := by
  rw [← Bool.not_eq_true]
  intro h'
  have := (sz_all _ _).2 h'
  omega

set_option maxHeartbeats 8000000 in
theorem Fair_any (v : Value) (l : List PP) (n m k : Int) (w : World) (hl : Picks w v l) (hwf : ∀ p ∈ l, Wf p) (hlen : l.length ≤ 8796093022208)
    (hn0 : -9223372036854775808 ≤ n) (hm0 : -9223372036854775808 ≤ m) (hk0 : -9223372036854775808 ≤ k) (hk1 : k ≤ 9223372036854775807) :
    Calls Try.prog 21 #[v, .int .i64 n, .int .i64 m, .int .i64 k] w fun e w' => e = .returned (.bool (fairF l n m k)) ∧ Below w.heap.size w w' := by
  have hl' := hl
  obtain ⟨A, c, rfl, h1, h2, -⟩ := hl'
  unfold maxLen at h2
  have HL := hide hl
  clear hl
  by_cases hk : k < 1
  · have HF := hide (fair_small l n m k hk)
    go_enter Try.func21, Try.ntmps21
    go_wp2
    go_ret
    exact ⟨ret_bool HF.out.symm, Below.refl _ _⟩
  by_cases hs : (l.length : Int) < k
  · have HF := hide (fair_short l n m k hk hs)
    go_enter Try.func21, Try.ntmps21
    go_wp2
    go_ret
    exact ⟨ret_bool HF.out.symm, Below.refl _ _⟩
  by_cases hn : 16 < n
  · have HF := hide (fair_over l n m k hk hs (.inl hn))
    go_enter Try.func21, Try.ntmps21
    go_wp2
    go_ret
    exact ⟨ret_bool HF.out.symm, Below.refl _ _⟩
  by_cases hm : 16 < m
  · have HF := hide (fair_over l n m k hk hs (.inr hm))
    go_enter Try.func21, Try.ntmps21
    go_wp2
    all_goals go_ret
    all_goals exact ⟨ret_bool HF.out.symm, Below.refl _ _⟩
  obtain ⟨K, rfl⟩ : ∃ K : Nat, k = K := ⟨k.toNat, by omega⟩
  have HNo := hide (fair_no l n m K hk hs (by omega) (by omega))
  have HYes := hide (fair_yes l n m K hk hs (by omega) (by omega))
  have hND := nodup_roundL n m
  have hmem : ∀ p, p ∈ roundL n m ↔ there p n m = true := fun p => mem_roundL (by omega) (by omega)
  have hmm := @run_makeMap Try.prog
  have hRl : (roundL n m).length ≤ 33 := by
    have h1 := upto16_le n; have h2 := upto16_le m
    rw [show roundL n m = rnd (upto16 n) (upto16 m) from rfl, rnd_len]; omega
  generalize hL : roundL n m = L at *
  go_enter Try.func21, Try.ntmps21
  go_wp2_with (go_at_call 23; refine (Round_any _ _ _).mono ?_; rintro e w1 ⟨vR, rfl, hownR, hbR⟩; rw [hL] at hownR; obtain ⟨AR, cR, rfl, hR1, hR2⟩ := own_form hownR)
  have hbR' : Below w.heap.size w (w1.alloc (.map #[] 0)) := hbR.alloc hbR.size _
  have hM0 := hide (metAt_start L w1)
  have hBB := hbR.size
  generalize w1.heap.size = B at *
  go_loopw [32] (fun i wr => ∃ j : Nat, j ≤ l.length ∧ i = .int .i64 j ∧ Below w.heap.size w wr ∧ Hid (MetAt L wr B (2 * j) (win l K j)) ∧ Hid (∀ i, i + K ≤ j → winOK n m ((l.drop i).take K) = true)) (fun i _ => l.length - (intOf i).toNat)
  case atStart => exact ⟨0, Nat.zero_le _, rfl, hbR', by rw [win_zero]; exact hM0, hide (fun i hi => absurd hi (by omega))⟩
  case round =>
    obtain ⟨j, hj, rfl, hb, HM, HA⟩ := hrel
    by_cases hlt : j < l.length
    · obtain ⟨b, off, rfl, hbl, c0, c1⟩ := picks_at (HL.out.below hb) hlt
      have hpw : Wf l[j] := hwf _ (List.getElem_mem hlt)
      have hwl := win_len l K j
      have hbs := hb.size
      have hA1 : j + 1 < K → ∀ i, i + K ≤ j + 1 → winOK n m ((l.drop i).take K) = true := fun h i hi => absurd hi (by omega)
      have hA2 : ¬ sz L (win l K (j + 1)) < L.length → K ≤ j + 1 → ∀ i, i + K ≤ j + 1 → winOK n m ((l.drop i).take K) = true := fun h hK i hi => by
        by_cases hij : i + K ≤ j
        · exact HA.out i hij
        · obtain rfl : i = j + 1 - K := by omega
          rw [← win_full l hK]
          exact ok_of_sz (by rw [hL]; exact h)
      have hA3 : sz L (win l K (j + 1)) < L.length → K ≤ j + 1 → fairF l n m K = false := fun h hK =>
        HNo.out (j + 1 - K) (by omega) (by rw [← win_full l hK]; exact bad_of_sz (by rw [hL]; exact h))
      have hA1 := hide hA1
      have hA2 := hide hA2
      have hA3 := hide hA3
      have hcf := cf_le L (win l K j) l[j]
      cases htb : there (l[j].1, l[j].2) n m
      · have Hnot := hide (fun h : l[j] ∈ L => Bool.false_ne_true (htb.symm.trans ((hmem l[j]).1 h)))
        by_cases hge : K ≤ j
        · have hqw : Wf l[j - K] := hwf _ (List.getElem_mem (by omega))
          have hsub : ((j : Int) - (K : Int)).toNat = j - K := by omega
          have Hsl := hide (win_slide l hlt hge (by omega))
          by_cases hsz : sz L (win l K (j + 1)) < L.length
          · have HE := hide (hA3.out hsz (by omega))
            have hszI : ((sz L (win l K (j + 1)) : Nat) : Int) < (L.length : Int) := by omega
            clear hmem
            go_wp2_with (first | (go_at_call 32; refine (isThere_any _ _ _ _ _).mono ?_; rintro e w2 ⟨rfl, hb2⟩; rw [htb]; have hc2 := hide (bcell hb2).1; have hbW := bcall1 (Below.refl wr.heap.size wr) hb2; have hbw2 := hb.trans (hbW.mono hbs); have hMU := hide (metAt_not hND (Hnot.out) (metAt_below HM.out hbW)); have hMU := hide (show MetAt L w2 B (2 * j) (l[j - K] :: win l K (j + 1)) from Hsl.out ▸ hMU.out); obtain ⟨q0, q1⟩ := picks_cells (HL.out.below hbw2) (k := j - K) (by omega)) | (go_at_call 33; refine (forget_any B (2 * j) _ _ _ hqw _ hMU.out (by unfold maxLen; omega) (by have := cf_le L (l[j - K] :: win l K (j + 1)) l[j - K]; have := win_len l K (j + 1); simp only [List.length_cons] at *; omega)).mono ?_; rintro e w5 ⟨rfl, hM5, hg5⟩; have hM6 := hide (metAt_less hND hM5); have hln := metAt_len hM6.out; have hbw5 := hbw2.grown hg5 (by have := hbw2.size; omega) (fun g hg => by injection hg with hg; omega)))
            all_goals go_ret
            all_goals exact ⟨ret_bool HE.out.symm, hbw5⟩
          · have HE := hide (hA2.out hsz (by omega))
            have hszI : (L.length : Int) ≤ ((sz L (win l K (j + 1)) : Nat) : Int) := by omega
            clear hmem
            go_wp2_with (first | (go_at_call 32; refine (isThere_any _ _ _ _ _).mono ?_; rintro e w2 ⟨rfl, hb2⟩; rw [htb]; have hc2 := hide (bcell hb2).1; have hbW := bcall1 (Below.refl wr.heap.size wr) hb2; have hbw2 := hb.trans (hbW.mono hbs); have hMU := hide (metAt_not hND (Hnot.out) (metAt_below HM.out hbW)); have hMU := hide (show MetAt L w2 B (2 * j) (l[j - K] :: win l K (j + 1)) from Hsl.out ▸ hMU.out); obtain ⟨q0, q1⟩ := picks_cells (HL.out.below hbw2) (k := j - K) (by omega)) | (go_at_call 33; refine (forget_any B (2 * j) _ _ _ hqw _ hMU.out (by unfold maxLen; omega) (by have := cf_le L (l[j - K] :: win l K (j + 1)) l[j - K]; have := win_len l K (j + 1); simp only [List.length_cons] at *; omega)).mono ?_; rintro e w5 ⟨rfl, hM5, hg5⟩; have hM6 := hide (metAt_less hND hM5); have hln := metAt_len hM6.out; have hbw5 := hbw2.grown hg5 (by have := hbw2.size; omega) (fun g hg => by injection hg with hg; omega)))
            all_goals go_roundw
            case rel => exact ⟨j + 1, by omega, by go_num, hbw5, hide (metAt_mono hM6.out (by omega)), HE⟩
            case measure => simp [intOf]; omega
        · have Hup := hide (win_up l hlt (show j < K by omega)).symm
          by_cases hK1 : K ≤ j + 1
          · by_cases hsz : sz L (win l K (j + 1)) < L.length
            · have HE := hide (hA3.out hsz (by omega))
              have hszI : ((sz L (win l K (j + 1)) : Nat) : Int) < (L.length : Int) := by omega
              clear hmem
              go_wp2_with (first | (go_at_call 32; refine (isThere_any _ _ _ _ _).mono ?_; rintro e w2 ⟨rfl, hb2⟩; rw [htb]; have hc2 := hide (bcell hb2).1; have hbW := bcall1 (Below.refl wr.heap.size wr) hb2; have hbw2 := hb.trans (hbW.mono hbs); have hMU := hide (metAt_not hND (Hnot.out) (metAt_below HM.out hbW)); have hM6 := hide (show MetAt L w2 B (2 * j) (win l K (j + 1)) from Hup.out ▸ hMU.out); have hln := metAt_len hM6.out))
              all_goals go_ret
              all_goals exact ⟨ret_bool HE.out.symm, hbw2⟩
            · have HE := hide (hA2.out hsz (by omega))
              have hszI : (L.length : Int) ≤ ((sz L (win l K (j + 1)) : Nat) : Int) := by omega
              clear hmem
              go_wp2_with (first | (go_at_call 32; refine (isThere_any _ _ _ _ _).mono ?_; rintro e w2 ⟨rfl, hb2⟩; rw [htb]; have hc2 := hide (bcell hb2).1; have hbW := bcall1 (Below.refl wr.heap.size wr) hb2; have hbw2 := hb.trans (hbW.mono hbs); have hMU := hide (metAt_not hND (Hnot.out) (metAt_below HM.out hbW)); have hM6 := hide (show MetAt L w2 B (2 * j) (win l K (j + 1)) from Hup.out ▸ hMU.out); have hln := metAt_len hM6.out))
              all_goals go_roundw
              case rel => exact ⟨j + 1, by omega, by go_num, hbw2, hide (metAt_mono hM6.out (by omega)), HE⟩
              case measure => simp [intOf]; omega
          · have HE := hide (hA1.out (by omega))
            clear hmem
            go_wp2_with (first | (go_at_call 32; refine (isThere_any _ _ _ _ _).mono ?_; rintro e w2 ⟨rfl, hb2⟩; rw [htb]; have hc2 := hide (bcell hb2).1; have hbW := bcall1 (Below.refl wr.heap.size wr) hb2; have hbw2 := hb.trans (hbW.mono hbs); have hMU := hide (metAt_not hND (Hnot.out) (metAt_below HM.out hbW)); have hM6 := hide (show MetAt L w2 B (2 * j) (win l K (j + 1)) from Hup.out ▸ hMU.out); have hln := metAt_len hM6.out))
            all_goals go_roundw
            case rel => exact ⟨j + 1, by omega, by go_num, hbw2, hide (metAt_mono hM6.out (by omega)), HE⟩
            case measure => simp [intOf]; omega
      · have Hin := hide ((hmem l[j]).2 htb)
        by_cases hge : K ≤ j
        · have hqw : Wf l[j - K] := hwf _ (List.getElem_mem (by omega))
          have hsub : ((j : Int) - (K : Int)).toNat = j - K := by omega
          have Hsl := hide (win_slide l hlt hge (by omega))
          by_cases hsz : sz L (win l K (j + 1)) < L.length
          · have HE := hide (hA3.out hsz (by omega))
            have hszI : ((sz L (win l K (j + 1)) : Nat) : Int) < (L.length : Int) := by omega
            clear hmem
            go_wp2_with (go_at_call 32; refine (isThere_any _ _ _ _ _).mono ?_; rintro e w2 ⟨rfl, hb2⟩; rw [htb]; have hc2 := hide (bcell hb2).1; have hbW := bcall1 (Below.refl wr.heap.size wr) hb2; have hbw2 := hb.trans (hbW.mono hbs); obtain ⟨st, w3, w4, hl1, he, hl2, hst, hm4, hg4, hc3⟩ := bump_met (n := 2 * j) (c := cf L (win l K j)) (N := sz L (win l K j)) (metAt_below HM.out hbW) hpw (by unfold maxLen; omega) (by omega); have k0 : w2.cell? ⟨wr.heap.size, 0, none⟩ = some (.int .i64 l[j].1) := (hc2.out _ _ (by simp)).trans (by simp); have k1 : w2.cell? ⟨wr.heap.size, 1, none⟩ = some (.int .i64 l[j].2) := (hc2.out _ _ (by simp)).trans (by simp); have hbw4 := hbw2.grown hg4 (by have := hbw2.size; omega) (fun g hg => by injection hg with hg; omega); have hMU := hide (metAt_more hND (Hin.out) hm4); have hMU := hide (show MetAt L w4 B (2 * j + 1) (l[j - K] :: win l K (j + 1)) from Hsl.out ▸ hMU.out); obtain ⟨q0, q1⟩ := picks_cells (HL.out.below hbw4) (k := j - K) (by omega))
            go_region
            all_goals go_wp2_with (go_at_call 33; refine (forget_any B (2 * j + 1) _ _ _ hqw _ hMU.out (by unfold maxLen; omega) (by have := cf_le L (l[j - K] :: win l K (j + 1)) l[j - K]; have := win_len l K (j + 1); simp only [List.length_cons] at *; omega)).mono ?_; rintro e w5 ⟨rfl, hM5, hg5⟩; have hM6 := hide (metAt_less hND hM5); have hln := metAt_len hM6.out; have hbw5 := hbw4.grown hg5 (by have := hbw4.size; omega) (fun g hg => by injection hg with hg; omega))
            all_goals go_ret
            all_goals exact ⟨ret_bool HE.out.symm, hbw5⟩
          · have HE := hide (hA2.out hsz (by omega))
            have hszI : (L.length : Int) ≤ ((sz L (win l K (j + 1)) : Nat) : Int) := by omega
            clear hmem
            go_wp2_with (go_at_call 32; refine (isThere_any _ _ _ _ _).mono ?_; rintro e w2 ⟨rfl, hb2⟩; rw [htb]; have hc2 := hide (bcell hb2).1; have hbW := bcall1 (Below.refl wr.heap.size wr) hb2; have hbw2 := hb.trans (hbW.mono hbs); obtain ⟨st, w3, w4, hl1, he, hl2, hst, hm4, hg4, hc3⟩ := bump_met (n := 2 * j) (c := cf L (win l K j)) (N := sz L (win l K j)) (metAt_below HM.out hbW) hpw (by unfold maxLen; omega) (by omega); have k0 : w2.cell? ⟨wr.heap.size, 0, none⟩ = some (.int .i64 l[j].1) := (hc2.out _ _ (by simp)).trans (by simp); have k1 : w2.cell? ⟨wr.heap.size, 1, none⟩ = some (.int .i64 l[j].2) := (hc2.out _ _ (by simp)).trans (by simp); have hbw4 := hbw2.grown hg4 (by have := hbw2.size; omega) (fun g hg => by injection hg with hg; omega); have hMU := hide (metAt_more hND (Hin.out) hm4); have hMU := hide (show MetAt L w4 B (2 * j + 1) (l[j - K] :: win l K (j + 1)) from Hsl.out ▸ hMU.out); obtain ⟨q0, q1⟩ := picks_cells (HL.out.below hbw4) (k := j - K) (by omega))
            go_region
            all_goals go_wp2_with (go_at_call 33; refine (forget_any B (2 * j + 1) _ _ _ hqw _ hMU.out (by unfold maxLen; omega) (by have := cf_le L (l[j - K] :: win l K (j + 1)) l[j - K]; have := win_len l K (j + 1); simp only [List.length_cons] at *; omega)).mono ?_; rintro e w5 ⟨rfl, hM5, hg5⟩; have hM6 := hide (metAt_less hND hM5); have hln := metAt_len hM6.out; have hbw5 := hbw4.grown hg5 (by have := hbw4.size; omega) (fun g hg => by injection hg with hg; omega))
            all_goals go_roundw
            case rel => exact ⟨j + 1, by omega, by go_num, hbw5, hide (metAt_mono hM6.out (by omega)), HE⟩
            case measure => simp [intOf]; omega
        · have Hup := hide (win_up l hlt (show j < K by omega)).symm
          by_cases hK1 : K ≤ j + 1
          · by_cases hsz : sz L (win l K (j + 1)) < L.length
            · have HE := hide (hA3.out hsz (by omega))
              have hszI : ((sz L (win l K (j + 1)) : Nat) : Int) < (L.length : Int) := by omega
              clear hmem
              go_wp2_with (go_at_call 32; refine (isThere_any _ _ _ _ _).mono ?_; rintro e w2 ⟨rfl, hb2⟩; rw [htb]; have hc2 := hide (bcell hb2).1; have hbW := bcall1 (Below.refl wr.heap.size wr) hb2; have hbw2 := hb.trans (hbW.mono hbs); obtain ⟨st, w3, w4, hl1, he, hl2, hst, hm4, hg4, hc3⟩ := bump_met (n := 2 * j) (c := cf L (win l K j)) (N := sz L (win l K j)) (metAt_below HM.out hbW) hpw (by unfold maxLen; omega) (by omega); have k0 : w2.cell? ⟨wr.heap.size, 0, none⟩ = some (.int .i64 l[j].1) := (hc2.out _ _ (by simp)).trans (by simp); have k1 : w2.cell? ⟨wr.heap.size, 1, none⟩ = some (.int .i64 l[j].2) := (hc2.out _ _ (by simp)).trans (by simp); have hbw4 := hbw2.grown hg4 (by have := hbw2.size; omega) (fun g hg => by injection hg with hg; omega); have hMU := hide (metAt_more hND (Hin.out) hm4); have hM6 := hide (show MetAt L w4 B (2 * j + 1) (win l K (j + 1)) from Hup.out ▸ hMU.out); have hln := metAt_len hM6.out)
              go_region
              all_goals go_wp2
              all_goals go_ret
              all_goals exact ⟨ret_bool HE.out.symm, hbw4⟩
            · have HE := hide (hA2.out hsz (by omega))
              have hszI : (L.length : Int) ≤ ((sz L (win l K (j + 1)) : Nat) : Int) := by omega
              clear hmem
              go_wp2_with (go_at_call 32; refine (isThere_any _ _ _ _ _).mono ?_; rintro e w2 ⟨rfl, hb2⟩; rw [htb]; have hc2 := hide (bcell hb2).1; have hbW := bcall1 (Below.refl wr.heap.size wr) hb2; have hbw2 := hb.trans (hbW.mono hbs); obtain ⟨st, w3, w4, hl1, he, hl2, hst, hm4, hg4, hc3⟩ := bump_met (n := 2 * j) (c := cf L (win l K j)) (N := sz L (win l K j)) (metAt_below HM.out hbW) hpw (by unfold maxLen; omega) (by omega); have k0 : w2.cell? ⟨wr.heap.size, 0, none⟩ = some (.int .i64 l[j].1) := (hc2.out _ _ (by simp)).trans (by simp); have k1 : w2.cell? ⟨wr.heap.size, 1, none⟩ = some (.int .i64 l[j].2) := (hc2.out _ _ (by simp)).trans (by simp); have hbw4 := hbw2.grown hg4 (by have := hbw2.size; omega) (fun g hg => by injection hg with hg; omega); have hMU := hide (metAt_more hND (Hin.out) hm4); have hM6 := hide (show MetAt L w4 B (2 * j + 1) (win l K (j + 1)) from Hup.out ▸ hMU.out); have hln := metAt_len hM6.out)
              go_region
              all_goals go_wp2
              all_goals go_roundw
              case rel => exact ⟨j + 1, by omega, by go_num, hbw4, hide (metAt_mono hM6.out (by omega)), HE⟩
              case measure => simp [intOf]; omega
          · have HE := hide (hA1.out (by omega))
            clear hmem
            go_wp2_with (go_at_call 32; refine (isThere_any _ _ _ _ _).mono ?_; rintro e w2 ⟨rfl, hb2⟩; rw [htb]; have hc2 := hide (bcell hb2).1; have hbW := bcall1 (Below.refl wr.heap.size wr) hb2; have hbw2 := hb.trans (hbW.mono hbs); obtain ⟨st, w3, w4, hl1, he, hl2, hst, hm4, hg4, hc3⟩ := bump_met (n := 2 * j) (c := cf L (win l K j)) (N := sz L (win l K j)) (metAt_below HM.out hbW) hpw (by unfold maxLen; omega) (by omega); have k0 : w2.cell? ⟨wr.heap.size, 0, none⟩ = some (.int .i64 l[j].1) := (hc2.out _ _ (by simp)).trans (by simp); have k1 : w2.cell? ⟨wr.heap.size, 1, none⟩ = some (.int .i64 l[j].2) := (hc2.out _ _ (by simp)).trans (by simp); have hbw4 := hbw2.grown hg4 (by have := hbw2.size; omega) (fun g hg => by injection hg with hg; omega); have hMU := hide (metAt_more hND (Hin.out) hm4); have hM6 := hide (show MetAt L w4 B (2 * j + 1) (win l K (j + 1)) from Hup.out ▸ hMU.out); have hln := metAt_len hM6.out)
            go_region
            all_goals go_wp2
            all_goals go_roundw
            case rel => exact ⟨j + 1, by omega, by go_num, hbw4, hide (metAt_mono hM6.out (by omega)), HE⟩
            case measure => simp [intOf]; omega
    · have HY := HYes.out fun i hi => HA.out i (by omega)
      have HY := hide HY
      go_wp2
      go_ret
      exact ⟨ret_bool HY.out.symm, hb⟩
end Go.Proofs.Ytbnnhalbgkaedaa
