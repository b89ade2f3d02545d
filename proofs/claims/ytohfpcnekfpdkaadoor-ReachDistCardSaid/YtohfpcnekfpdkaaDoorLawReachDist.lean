/- ReachDist: for any heap and roots: what has a distance is what is reached; a root has 0, and what is further has one in front of it that is nearer by one. No condition beside the listed table, which the card ties to the text. -/
import Derived.Test.YtohfpcnekfpdkaaDoorReachTied
import Derived.Test.YtohfpcnekfpdkaaDoorHeapUse0
import Derived.Test.YtohfpcnekfpdkaaDoorReachD
import Derived.Test.YtohfpcnekfpdkaaDoorQuietB
namespace Go.Proofs.YtohfpcnekfpdkaaDoor.lawReachDist
open Go.RowKit Go.WideShapes Go.ChangeShapes Go.ChangeAt Go.Proofs Go.Proofs.YtohfpcnekfpdkaaDoor

theorem has_b (s : Nat) (o : Int) (w : World) (hs : s < 18446744073709551616) (h0 : -9223372036854775808 ≤ o) (h1 : o ≤ 9223372036854775807) (u : Bool) (hu : hasF s o = u) :
    Calls Tryd.prog 35 #[.int .u64 s, .int .i64 o] w fun e w' => e = .returned (.bool u) ∧ Below w.heap.size w w' := by
  subst hu
  exact (Has_any s o w hs h0 h1).mono fun e w' ⟨h1, h2⟩ => ⟨h1, by rw [h2]; exact Below.refl _ _⟩
theorem ints_cell {w : World} {b off n c k : Nat} {l : List Int} {x : Int} (h : Ints w (.slice (some ⟨b, off, none⟩) n c) l) (hx : l[k]? = some x) : w.cell? ⟨b, off + k, none⟩ = some (.int .i64 x) := by
  have hk := (List.getElem?_eq_some_iff.1 hx).1
  obtain ⟨b2, o2, e, -, h2⟩ := ints_all h (by omega)
  injection e with e; injection e with e1 e2
  subst e1; subst e2
  exact h2 k x hx
set_option maxRecDepth 100000 in
set_option maxHeartbeats 8000000 in
theorem walk_wrong (n : Int) (vh : Value) (ls : Rws) (r : Nat) (w : World) (hh : Grid w vh ls) (_hr : r < 18446744073709551616) (hE : EnvT w) (hRt : rightF n ls = false) :
    Calls Tryd.prog 7 #[hv n vh, .int .u64 r] w fun e w' => e = .returned (.bool true) ∧ Below w.heap.size w w' := by
  have GH := hide hh
  have HE := hide hE
  have hB : Below w.heap.size w w := Below.refl _ _
  obtain ⟨A, c, rfl, h1, h2⟩ := hh.form
  unfold maxLen at h2
  obtain ⟨L, hL⟩ : ∃ L, ls.length = L := ⟨_, rfl⟩
  rw [hL] at GH h1 ⊢
  have hRt := hide hRt
  clear hh hE
  obtain ⟨wp0_, ep0_, hbp0_, hltp0_, -, x0p_, y0p_⟩ := box1 w (.int .i64 n) (.slice A L c) 24
  have HEP0_ := hide ep0_
  clear ep0_
  have GH := hide (GH.out.below hbp0_)
  have HE := hide (HE.out.below hbp0_)
  have hB := bcall hB hbp0_
  go_enter Tryd.func7, Tryd.ntmps7
  go_wp2_with fail
  rw [HEP0_.out]
  (with_reducible refine (examples_any _ HE.out).mono ?_)
  rintro e w0_ ⟨rfl, hb0_⟩
  have x0p_ := keepc hb0_ x0p_
  have y0p_ := keepc hb0_ y0p_
  have GH := hide (GH.out.below hb0_)
  have HE := hide (HE.out.below hb0_)
  have hB := bcall hB hb0_
  go_wp2_with fail
  (with_reducible refine (Right_c n _ ls _ GH.out _ hRt.out).mono ?_)
  rintro e w1_ ⟨rfl, hb1_⟩
  have x0p_ := keepc hb1_ x0p_
  have y0p_ := keepc hb1_ y0p_
  have GH := hide (GH.out.below hb1_)
  have HE := hide (HE.out.below hb1_)
  have hB := bcall hB hb1_
  go_wp2
  go_ret
  exact ⟨rfl, hB⟩

set_option maxRecDepth 100000 in
set_option maxHeartbeats 8000000 in
theorem walk_right (N : Nat) (vh : Value) (ls : Rws) (r : Nat) (w : World) (hh : Grid w vh ls) (hr : r < 18446744073709551616) (hE : EnvT w) (hRt : rightF N ls = true) :
    Calls Tryd.prog 7 #[hv (N : Int) vh, .int .u64 r] w fun e w' => e = .returned (.bool true) ∧ Below w.heap.size w w' := by
  have GH := hide hh
  have HE := hide hE
  have hB : Below w.heap.size w w := Below.refl _ _
  obtain ⟨A, c, rfl, h1, h2⟩ := hh.form
  unfold maxLen at h2
  obtain ⟨L, hL⟩ : ∃ L, ls.length = L := ⟨_, rfl⟩
  rw [hL] at GH h1 ⊢
  obtain ⟨S, hS⟩ : ∃ X, fromF ls r = X := ⟨_, rfl⟩
  have hSl : S < 18446744073709551616 := hS ▸ from_lt ls hr
  have hR3 := right_len hRt
  have hDl := dist_len ls r hR3.2.2
  rw [hL] at hR3 hDl
  obtain ⟨D, hD⟩ : ∃ D, distF ls r = D := ⟨_, rfl⟩
  rw [hD] at hDl
  have hIn := hide (show ∀ i : Nat, decide (0 ≤ dstF ls allN r ((i : Int) + 1)) = hasF S ((i : Int) + 1) from fun i => by rw [← hS]; exact dst_in)
  have hInO := hide (show ∀ i : Nat, i < L → inO ls ((i : Int) + 1) from fun i h => ⟨by omega, by omega, by omega⟩)
  have hRo := hide (show ∀ i : Nat, i < L → decide (dstF ls allN r ((i : Int) + 1) = 0) = hasF r ((i : Int) + 1) from fun i h => dst_root (hInO.out i h))
  have hAt := hide (show ∀ i : Nat, i < L → D[i]? = some (dstF ls allN r ((i : Int) + 1)) from fun i h => by rw [← hD]; exact dist_at ls r i (by omega) (by omega))
  have hRng := hide (fun i : Nat => dst_rng ls allN r ((i : Int) + 1))
  have hNr := hide (fun i : Nat => nr_fin (ls := ls) (r := r) (x := (i : Int) + 1))
  rw [hL] at hNr
  have hgt := hide (show ∀ i j : Nat, i < L → j < N → hasS ls ((i : Int) + 1) j = true ∧ (rowF ls ((i : Int) + 1))[j]? = some (getF ls ((i : Int) + 1) j) ∧ (rowF ls ((i : Int) + 1)).length = N ∧ 0 ≤ getF ls ((i : Int) + 1) j ∧ getF ls ((i : Int) + 1) j ≤ L from fun i j hi hj => by
    obtain ⟨p1, p2, p3, p4, p5⟩ := right_get hRt (i := i) (j := j) (by omega) (by omega)
    exact ⟨p1, p2, by omega, p4, by omega⟩)
  have hRt := hide hRt
  have hS := hide (show ((fromF ls r : Nat) : Int) = S by rw [hS])
  have hD := hide hD
  have hDl := hide hDl
  clear hh hE
  obtain ⟨wp0_, ep0_, hbp0_, hltp0_, -, x0p_, y0p_⟩ := box1 w (.int .i64 (N : Int)) (.slice A L c) 24
  have HEP0_ := hide ep0_
  clear ep0_
  have GH := hide (GH.out.below hbp0_)
  have HE := hide (HE.out.below hbp0_)
  have hB := bcall hB hbp0_
  go_enter Tryd.func7, Tryd.ntmps7
  go_wp2_with fail
  rw [HEP0_.out]
  (with_reducible refine (examples_any _ HE.out).mono ?_)
  rintro e w0_ ⟨rfl, hb0_⟩
  have x0p_ := keepc hb0_ x0p_
  have y0p_ := keepc hb0_ y0p_
  have GH := hide (GH.out.below hb0_)
  have HE := hide (HE.out.below hb0_)
  have hB := bcall hB hb0_
  go_wp2_with fail
  (with_reducible refine (Right_c (N : Int) _ ls _ GH.out _ hRt.out).mono ?_)
  rintro e w1_ ⟨rfl, hb1_⟩
  have x0p_ := keepc hb1_ x0p_
  have y0p_ := keepc hb1_ y0p_
  have GH := hide (GH.out.below hb1_)
  have HE := hide (HE.out.below hb1_)
  have hB := bcall hB hb1_
  go_wp2_with fail
  (with_reducible refine (Dist_c (N : Int) _ ls r _ hr GH.out HE.out _ rfl D hD.out L hDl.out).mono ?_)
  rintro e w2_ ⟨Aa, ca, rfl, pa1, pa2, HA, hb2_⟩
  have x0p_ := keepc hb2_ x0p_
  have y0p_ := keepc hb2_ y0p_
  have GH := hide (GH.out.below hb2_)
  have HE := hide (HE.out.below hb2_)
  have hB := bcall hB hb2_
  go_wp2_with fail
  (with_reducible refine (From_c (N : Int) _ ls r _ hr GH.out HE.out _ rfl S hS.out).mono ?_)
  rintro e w3_ ⟨rfl, hb3_⟩
  have x0p_ := keepc hb3_ x0p_
  have y0p_ := keepc hb3_ y0p_
  have GH := hide (GH.out.below hb3_)
  have HE := hide (HE.out.below hb3_)
  have hB := bcall hB hb3_
  have HA := hide (HA.out.below hb3_)
  go_wp2_with fail
  go_loopw [8] (fun i wi => ∃ i₀ : Nat, i₀ ≤ L ∧ i = .int .i64 i₀ ∧ Below w3_.heap.size w3_ wi) (fun i _ => L - (Go.RowKit.intOf i).toNat)
  case atStart => exact ⟨0, Nat.zero_le _, rfl, Below.refl _ _⟩
  case round =>
    obtain ⟨i, hi, rfl, hb⟩ := hrel
    have x0p_ := keepc hb x0p_
    have y0p_ := keepc hb y0p_
    have GH := hide (GH.out.below hb)
    have HE := hide (HE.out.below hb)
    have hB := bcall hB hb
    have HA := hide (HA.out.below hb)
    by_cases hlt : i < L
    · obtain ⟨ba, oa, rfl, -, -⟩ := ints_all HA.out (by rw [hDl.out]; omega)
      obtain ⟨x, hx⟩ : ∃ x, dstF ls allN r ((i : Int) + 1) = x := ⟨_, rfl⟩
      obtain ⟨b1, hb1⟩ : ∃ b, decide (0 ≤ x) = b := ⟨_, rfl⟩
      obtain ⟨b2, hb2⟩ : ∃ b, (x == 0) = b := ⟨_, rfl⟩
      have hq1 := hide (show hasF S ((i : Int) + 1) = b1 by rw [← hIn.out i, hx]; exact hb1)
      have hq2 := hide (show hasF r ((i : Int) + 1) = b2 by rw [← hRo.out i hlt, hx, ← hb2]; rfl)
      have hDi := hide ((hAt.out i hlt).trans (by rw [hx]))
      have hxr := hRng.out i
      rw [hx] at hxr
      have HX := hide hx
      clear hx
      have ci := ints_cell HA.out hDi.out
      have ciq : ∀ p : BW wr, p.w.cell? ⟨ba, oa + i, none⟩ = some (.int .i64 x) := fun p => keepc p.b ci
      go_wp2
      refine wp_region_below (by kernel_rfl) (by kernel_rfl) ?_
      repeat (go_big_quiet_step (first | (with_reducible refine below_of (has_b S ((i : Int) + 1) _ hSl (by omega) (by omega) b1 hq1.out)) | (with_reducible refine below_of (has_b r ((i : Int) + 1) _ hr (by omega) (by omega) b2 hq2.out))))
      refine wpQuiet_nil ?_
      intro wq hw'
      obtain ⟨⟨wz, bq⟩, hw''⟩ := hw'
      subst hw''
      clear ciq
      have ci := keepc bq ci
      have x0p_ := keepc bq x0p_
      have y0p_ := keepc bq y0p_
      have GH := hide (GH.out.below bq)
      have HE := hide (HE.out.below bq)
      have hB := bcall hB bq
      have HA := hide (HA.out.below bq)
      go_wp2
      clear ci
      go_loopw [9, 10] (fun nr j wi => ∃ j₀ : Nat, j₀ ≤ L ∧ j = .int .i64 j₀ ∧ nr = .bool (nrK ls r ((i : Int) + 1) j₀) ∧ Below wq.heap.size wq wi) (fun _ j _ => L - (Go.RowKit.intOf j).toNat)
      case atStart => exact ⟨0, Nat.zero_le _, rfl, by rw [nrK_zero, HX.out], Below.refl _ _⟩
      case round =>
        obtain ⟨j, hj, rfl, rfl, hbj⟩ := hrel
        have x0p_ := keepc hbj x0p_
        have y0p_ := keepc hbj y0p_
        have GH := hide (GH.out.below hbj)
        have HE := hide (HE.out.below hbj)
        have hB := bcall hB hbj
        have HA := hide (HA.out.below hbj)
        by_cases hltj : j < L
        · go_wp2
          go_loopw [9, 11] (fun nr k wi => ∃ k₀ : Nat, k₀ ≤ N ∧ k = .int .i64 k₀ ∧ nr = .bool (nrJ ls r ((i : Int) + 1) j k₀) ∧ Below wr.heap.size wr wi) (fun _ k _ => N - (Go.RowKit.intOf k).toNat)
          case atStart => exact ⟨0, Nat.zero_le _, rfl, by rw [nrJ_zero], Below.refl _ _⟩
          case round =>
            obtain ⟨k, hk, rfl, rfl, hbk⟩ := hrel
            have x0p_ := keepc hbk x0p_
            have y0p_ := keepc hbk y0p_
            have GH := hide (GH.out.below hbk)
            have HE := hide (HE.out.below hbk)
            have hB := bcall hB hbk
            have HA := hide (HA.out.below hbk)
            by_cases hltk : k < N
            · obtain ⟨v, hv⟩ : ∃ v, getF ls ((j : Int) + 1) k = v := ⟨_, rfl⟩
              obtain ⟨g1, gr, gl, -, -⟩ := hgt.out j k hltj hltk
              rw [hv] at gr
              obtain ⟨y, hy⟩ : ∃ y, dstF ls allN r ((j : Int) + 1) = y := ⟨_, rfl⟩
              have hDj := hide ((hAt.out j hltj).trans (by rw [hy]))
              have hyr := hRng.out j
              rw [hy] at hyr
              have hn3 := hide (show v = (i : Int) + 1 → 0 ≤ y → x ≤ y + 1 from fun h h0 => by rw [← HX.out, ← hy]; exact dst_next (hInO.out i hlt) (by rw [← h]; exact List.mem_of_getElem? gr) (by rw [hy]; exact h0))
              have hst := hide (nrJ_step (ls := ls) (r := r) (x := (i : Int) + 1) (k := j) (j := k) (v := v) gr)
              have hC := hide (show nrC ls r ((i : Int) + 1) ((j : Int) + 1) = (decide (0 ≤ y) && decide (y = x - 1)) by unfold nrC; rw [hy, HX.out])
              obtain ⟨bb, hbb⟩ : ∃ bb, nrJ ls r ((i : Int) + 1) j k = bb := ⟨_, rfl⟩
              have HBB := hide hbb
              rw [hbb]
              have G1 := hide g1
              have HV := hide hv
              clear hbb g1 gr gl hv hy
              go_wp2_with fail
              (with_reducible refine (Get_c (N : Int) _ ls _ _ _ GH.out v HV.out true G1.out).mono ?_)
              rintro e w4_ ⟨rfl, hb4_⟩
              have x0p_ := keepc hb4_ x0p_
              have y0p_ := keepc hb4_ y0p_
              have GH := hide (GH.out.below hb4_)
              have HE := hide (HE.out.below hb4_)
              have hB := bcall hB hb4_
              have HA := hide (HA.out.below hb4_)
              have ci := ints_cell HA.out hDi.out
              have cj := ints_cell HA.out hDj.out
              by_cases hvx : v = (i : Int) + 1
              · have hn := hn3.out hvx
                subst hvx
                by_cases hy0 : 0 ≤ y
                · have e1 : decide (0 ≤ y) = true := decide_eq_true hy0
                  have e2 : decide (y + 1 < x) = false := by rw [decide_eq_false_iff_not]; have := hn hy0; omega
                  rw [e1] at hC
                  have HC := hide hC.out
                  clear hy0 hn hC
                  by_cases hyx : y = x - 1
                  · have e3 : (y == x - 1) = true := by rw [beq_iff_eq]; exact hyx
                    have HD1 := hide (show decide (y = x - 1) = true from decide_eq_true hyx)
                    clear hyx
                    cases bb with
                    | true =>
                      have ciq : ∀ p : BW w4_, p.w.cell? ⟨ba, oa + i, none⟩ = some (.int .i64 x) := fun p => keepc p.b ci
                      have cjq : ∀ p : BW w4_, p.w.cell? ⟨ba, oa + j, none⟩ = some (.int .i64 y) := fun p => keepc p.b cj
                      go_wp2
                      refine wp_region_below (by kernel_rfl) (by kernel_rfl) ?_
                      repeat (go_big_quiet_step (fail))
                      refine wpQuiet_nil ?_
                      intro wq hw'
                      obtain ⟨⟨wz, bq⟩, hw''⟩ := hw'
                      subst hw''
                      clear ciq cjq
                      have ci := keepc bq ci
                      have cj := keepc bq cj
                      have bqa := bq
                      clear bq
                      have ciq : ∀ p : BW wq, p.w.cell? ⟨ba, oa + i, none⟩ = some (.int .i64 x) := fun p => keepc p.b ci
                      have cjq : ∀ p : BW wq, p.w.cell? ⟨ba, oa + j, none⟩ = some (.int .i64 y) := fun p => keepc p.b cj
                      go_wp2
                      refine wp_region_below (by kernel_rfl) (by kernel_rfl) ?_
                      repeat (go_big_quiet_step (fail))
                      refine wpQuiet_nil ?_
                      intro wq hw'
                      obtain ⟨⟨wz, bq⟩, hw''⟩ := hw'
                      subst hw''
                      go_wp2
                      go_roundw
                      case rel => exact ⟨k + 1, by omega, by go_num, by rw [hst.out, HBB.out, HC.out, HD1.out]; simp, bcall hbk (bcall hb4_ (bcall bqa bq))⟩
                      case measure => simp [Go.RowKit.intOf]; omega
                    | false =>
                      have ciq : ∀ p : BW w4_, p.w.cell? ⟨ba, oa + i, none⟩ = some (.int .i64 x) := fun p => keepc p.b ci
                      have cjq : ∀ p : BW w4_, p.w.cell? ⟨ba, oa + j, none⟩ = some (.int .i64 y) := fun p => keepc p.b cj
                      go_wp2
                      refine wp_region_below (by kernel_rfl) (by kernel_rfl) ?_
                      repeat (go_big_quiet_step (fail))
                      refine wpQuiet_nil ?_
                      intro wq hw'
                      obtain ⟨⟨wz, bq⟩, hw''⟩ := hw'
                      subst hw''
                      clear ciq cjq
                      have ci := keepc bq ci
                      have cj := keepc bq cj
                      have bqa := bq
                      clear bq
                      have ciq : ∀ p : BW wq, p.w.cell? ⟨ba, oa + i, none⟩ = some (.int .i64 x) := fun p => keepc p.b ci
                      have cjq : ∀ p : BW wq, p.w.cell? ⟨ba, oa + j, none⟩ = some (.int .i64 y) := fun p => keepc p.b cj
                      go_wp2
                      refine wp_region_below (by kernel_rfl) (by kernel_rfl) ?_
                      repeat (go_big_quiet_step (fail))
                      refine wpQuiet_nil ?_
                      intro wq hw'
                      obtain ⟨⟨wz, bq⟩, hw''⟩ := hw'
                      subst hw''
                      go_wp2
                      go_roundw
                      case rel => exact ⟨k + 1, by omega, by go_num, by rw [hst.out, HBB.out, HC.out, HD1.out]; simp, bcall hbk (bcall hb4_ (bcall bqa bq))⟩
                      case measure => simp [Go.RowKit.intOf]; omega
                  · have e3 : (y == x - 1) = false := by rw [beq_eq_false_iff_ne]; exact hyx
                    have HD1 := hide (show decide (y = x - 1) = false from decide_eq_false hyx)
                    clear hyx
                    cases bb with
                    | true =>
                      have ciq : ∀ p : BW w4_, p.w.cell? ⟨ba, oa + i, none⟩ = some (.int .i64 x) := fun p => keepc p.b ci
                      have cjq : ∀ p : BW w4_, p.w.cell? ⟨ba, oa + j, none⟩ = some (.int .i64 y) := fun p => keepc p.b cj
                      go_wp2
                      refine wp_region_below (by kernel_rfl) (by kernel_rfl) ?_
                      repeat (go_big_quiet_step (fail))
                      refine wpQuiet_nil ?_
                      intro wq hw'
                      obtain ⟨⟨wz, bq⟩, hw''⟩ := hw'
                      subst hw''
                      clear ciq cjq
                      have ci := keepc bq ci
                      have cj := keepc bq cj
                      have bqa := bq
                      clear bq
                      have ciq : ∀ p : BW wq, p.w.cell? ⟨ba, oa + i, none⟩ = some (.int .i64 x) := fun p => keepc p.b ci
                      have cjq : ∀ p : BW wq, p.w.cell? ⟨ba, oa + j, none⟩ = some (.int .i64 y) := fun p => keepc p.b cj
                      go_wp2
                      refine wp_region_below (by kernel_rfl) (by kernel_rfl) ?_
                      repeat (go_big_quiet_step (fail))
                      refine wpQuiet_nil ?_
                      intro wq hw'
                      obtain ⟨⟨wz, bq⟩, hw''⟩ := hw'
                      subst hw''
                      go_wp2
                      go_roundw
                      case rel => exact ⟨k + 1, by omega, by go_num, by rw [hst.out, HBB.out, HC.out, HD1.out]; simp, bcall hbk (bcall hb4_ (bcall bqa bq))⟩
                      case measure => simp [Go.RowKit.intOf]; omega
                    | false =>
                      have ciq : ∀ p : BW w4_, p.w.cell? ⟨ba, oa + i, none⟩ = some (.int .i64 x) := fun p => keepc p.b ci
                      have cjq : ∀ p : BW w4_, p.w.cell? ⟨ba, oa + j, none⟩ = some (.int .i64 y) := fun p => keepc p.b cj
                      go_wp2
                      refine wp_region_below (by kernel_rfl) (by kernel_rfl) ?_
                      repeat (go_big_quiet_step (fail))
                      refine wpQuiet_nil ?_
                      intro wq hw'
                      obtain ⟨⟨wz, bq⟩, hw''⟩ := hw'
                      subst hw''
                      clear ciq cjq
                      have ci := keepc bq ci
                      have cj := keepc bq cj
                      have bqa := bq
                      clear bq
                      have ciq : ∀ p : BW wq, p.w.cell? ⟨ba, oa + i, none⟩ = some (.int .i64 x) := fun p => keepc p.b ci
                      have cjq : ∀ p : BW wq, p.w.cell? ⟨ba, oa + j, none⟩ = some (.int .i64 y) := fun p => keepc p.b cj
                      go_wp2
                      refine wp_region_below (by kernel_rfl) (by kernel_rfl) ?_
                      repeat (go_big_quiet_step (fail))
                      refine wpQuiet_nil ?_
                      intro wq hw'
                      obtain ⟨⟨wz, bq⟩, hw''⟩ := hw'
                      subst hw''
                      go_wp2
                      go_roundw
                      case rel => exact ⟨k + 1, by omega, by go_num, by rw [hst.out, HBB.out, HC.out, HD1.out]; simp, bcall hbk (bcall hb4_ (bcall bqa bq))⟩
                      case measure => simp [Go.RowKit.intOf]; omega
                · have e1 : decide (0 ≤ y) = false := decide_eq_false hy0
                  rw [e1] at hC
                  have HC := hide hC.out
                  clear hy0 hn hC
                  cases bb with
                  | true =>
                    have ciq : ∀ p : BW w4_, p.w.cell? ⟨ba, oa + i, none⟩ = some (.int .i64 x) := fun p => keepc p.b ci
                    have cjq : ∀ p : BW w4_, p.w.cell? ⟨ba, oa + j, none⟩ = some (.int .i64 y) := fun p => keepc p.b cj
                    go_wp2
                    refine wp_region_below (by kernel_rfl) (by kernel_rfl) ?_
                    repeat (go_big_quiet_step (fail))
                    refine wpQuiet_nil ?_
                    intro wq hw'
                    obtain ⟨⟨wz, bq⟩, hw''⟩ := hw'
                    subst hw''
                    clear ciq cjq
                    have ci := keepc bq ci
                    have cj := keepc bq cj
                    have bqa := bq
                    clear bq
                    have ciq : ∀ p : BW wq, p.w.cell? ⟨ba, oa + i, none⟩ = some (.int .i64 x) := fun p => keepc p.b ci
                    have cjq : ∀ p : BW wq, p.w.cell? ⟨ba, oa + j, none⟩ = some (.int .i64 y) := fun p => keepc p.b cj
                    go_wp2
                    refine wp_region_below (by kernel_rfl) (by kernel_rfl) ?_
                    repeat (go_big_quiet_step (fail))
                    refine wpQuiet_nil ?_
                    intro wq hw'
                    obtain ⟨⟨wz, bq⟩, hw''⟩ := hw'
                    subst hw''
                    go_wp2
                    go_roundw
                    case rel => exact ⟨k + 1, by omega, by go_num, by rw [hst.out, HBB.out, HC.out]; simp, bcall hbk (bcall hb4_ (bcall bqa bq))⟩
                    case measure => simp [Go.RowKit.intOf]; omega
                  | false =>
                    have ciq : ∀ p : BW w4_, p.w.cell? ⟨ba, oa + i, none⟩ = some (.int .i64 x) := fun p => keepc p.b ci
                    have cjq : ∀ p : BW w4_, p.w.cell? ⟨ba, oa + j, none⟩ = some (.int .i64 y) := fun p => keepc p.b cj
                    go_wp2
                    refine wp_region_below (by kernel_rfl) (by kernel_rfl) ?_
                    repeat (go_big_quiet_step (fail))
                    refine wpQuiet_nil ?_
                    intro wq hw'
                    obtain ⟨⟨wz, bq⟩, hw''⟩ := hw'
                    subst hw''
                    clear ciq cjq
                    have ci := keepc bq ci
                    have cj := keepc bq cj
                    have bqa := bq
                    clear bq
                    have ciq : ∀ p : BW wq, p.w.cell? ⟨ba, oa + i, none⟩ = some (.int .i64 x) := fun p => keepc p.b ci
                    have cjq : ∀ p : BW wq, p.w.cell? ⟨ba, oa + j, none⟩ = some (.int .i64 y) := fun p => keepc p.b cj
                    go_wp2
                    refine wp_region_below (by kernel_rfl) (by kernel_rfl) ?_
                    repeat (go_big_quiet_step (fail))
                    refine wpQuiet_nil ?_
                    intro wq hw'
                    obtain ⟨⟨wz, bq⟩, hw''⟩ := hw'
                    subst hw''
                    go_wp2
                    go_roundw
                    case rel => exact ⟨k + 1, by omega, by go_num, by rw [hst.out, HBB.out, HC.out]; simp, bcall hbk (bcall hb4_ (bcall bqa bq))⟩
                    case measure => simp [Go.RowKit.intOf]; omega
              · have hvb : (v == (i : Int) + 1) = false := by rw [beq_eq_false_iff_ne]; exact hvx
                have HVB := hide hvb
                clear hvx
                cases bb with
                | true =>
                  have ciq : ∀ p : BW w4_, p.w.cell? ⟨ba, oa + i, none⟩ = some (.int .i64 x) := fun p => keepc p.b ci
                  have cjq : ∀ p : BW w4_, p.w.cell? ⟨ba, oa + j, none⟩ = some (.int .i64 y) := fun p => keepc p.b cj
                  go_wp2
                  refine wp_region_below (by kernel_rfl) (by kernel_rfl) ?_
                  repeat (go_big_quiet_step (fail))
                  refine wpQuiet_nil ?_
                  intro wq hw'
                  obtain ⟨⟨wz, bq⟩, hw''⟩ := hw'
                  subst hw''
                  clear ciq cjq
                  have ci := keepc bq ci
                  have cj := keepc bq cj
                  have bqa := bq
                  clear bq
                  have ciq : ∀ p : BW wq, p.w.cell? ⟨ba, oa + i, none⟩ = some (.int .i64 x) := fun p => keepc p.b ci
                  have cjq : ∀ p : BW wq, p.w.cell? ⟨ba, oa + j, none⟩ = some (.int .i64 y) := fun p => keepc p.b cj
                  go_wp2
                  refine wp_region_below (by kernel_rfl) (by kernel_rfl) ?_
                  repeat (go_big_quiet_step (fail))
                  refine wpQuiet_nil ?_
                  intro wq hw'
                  obtain ⟨⟨wz, bq⟩, hw''⟩ := hw'
                  subst hw''
                  go_wp2
                  go_roundw
                  case rel => exact ⟨k + 1, by omega, by go_num, by rw [hst.out, HBB.out, HVB.out]; simp, bcall hbk (bcall hb4_ (bcall bqa bq))⟩
                  case measure => simp [Go.RowKit.intOf]; omega
                | false =>
                  have ciq : ∀ p : BW w4_, p.w.cell? ⟨ba, oa + i, none⟩ = some (.int .i64 x) := fun p => keepc p.b ci
                  have cjq : ∀ p : BW w4_, p.w.cell? ⟨ba, oa + j, none⟩ = some (.int .i64 y) := fun p => keepc p.b cj
                  go_wp2
                  refine wp_region_below (by kernel_rfl) (by kernel_rfl) ?_
                  repeat (go_big_quiet_step (fail))
                  refine wpQuiet_nil ?_
                  intro wq hw'
                  obtain ⟨⟨wz, bq⟩, hw''⟩ := hw'
                  subst hw''
                  clear ciq cjq
                  have ci := keepc bq ci
                  have cj := keepc bq cj
                  have bqa := bq
                  clear bq
                  have ciq : ∀ p : BW wq, p.w.cell? ⟨ba, oa + i, none⟩ = some (.int .i64 x) := fun p => keepc p.b ci
                  have cjq : ∀ p : BW wq, p.w.cell? ⟨ba, oa + j, none⟩ = some (.int .i64 y) := fun p => keepc p.b cj
                  go_wp2
                  refine wp_region_below (by kernel_rfl) (by kernel_rfl) ?_
                  repeat (go_big_quiet_step (fail))
                  refine wpQuiet_nil ?_
                  intro wq hw'
                  obtain ⟨⟨wz, bq⟩, hw''⟩ := hw'
                  subst hw''
                  go_wp2
                  go_roundw
                  case rel => exact ⟨k + 1, by omega, by go_num, by rw [hst.out, HBB.out, HVB.out]; simp, bcall hbk (bcall hb4_ (bcall bqa bq))⟩
                  case measure => simp [Go.RowKit.intOf]; omega
            · obtain ⟨-, -, gl, -, -⟩ := hgt.out j 0 hltj (by omega)
              have hen := hide (nrJ_end (ls := ls) (r := r) (x := (i : Int) + 1) (k := j) (j := k) (by omega))
              clear gl
              obtain ⟨bb, hbb⟩ : ∃ bb, nrJ ls r ((i : Int) + 1) j k = bb := ⟨_, rfl⟩
              have HBB := hide hbb
              rw [hbb]
              clear hbb
              go_wp2
              go_roundw
              case rel => exact ⟨j + 1, by omega, by go_num, by rw [← hen.out, HBB.out], bcall hbj hbk⟩
              case measure => simp [Go.RowKit.intOf]; omega
        · obtain rfl : j = L := by omega
          have hfin := hide (hNr.out i)
          rw [hfin.out]
          go_wp2
          go_roundw
          case rel => exact ⟨i + 1, by omega, by go_num, bcall hb (bcall bq hbj)⟩
          case measure => simp [Go.RowKit.intOf]; omega
    · skip
      go_wp2
      go_ret
      exact ⟨rfl, hB⟩

theorem walk (n : Int) (vh : Value) (ls : Rws) (r : Nat) (w : World) (hh : Grid w vh ls) (hr : r < 18446744073709551616) (hE : EnvT w) :
    Calls Tryd.prog 7 #[hv n vh, .int .u64 r] w fun e w' => e = .returned (.bool true) ∧ Below w.heap.size w w' := by
  cases hR : rightF n ls with
  | false => exact walk_wrong n vh ls r w hh hr hE hR
  | true =>
    obtain ⟨N, rfl⟩ : ∃ N : Nat, n = N := ⟨n.toNat, by have := right_len hR; omega⟩
    exact walk_right N vh ls r w hh hr hE hR

set_option maxRecDepth 100000 in
theorem lifted (os : Os) (started : os.Started) (H : Type) (enc : TypeId × Value → H) :
    ReturnsInHanded {} Tryd.checked os 7 .any (fun w args => (Rows.reachDistSpec.pre enc Tryd.prog Tryd.f7 Rows.reachDistRow.domain false w args ∧ laidMetH Tryd.prog Rows.reachDistRow.laid w) ∧ sizedMet enc Tryd.prog Tryd.f7 (OpenSpec.ofChange Rows.reachDistSpec) false w args) (Rows.reachDistSpec.post enc Tryd.prog Tryd.f7 false true false false) := by
  refine handed_and_shaped (C := Tryd.checked) (X := fun w _ => laidMetH Tryd.prog Rows.reachDistRow.laid w) (fun _ _ _ hh h => h.of_heap hh) ownL started (by kernel_rfl) Tryd.func7
    (ChangeSpec.witness_shaped (enc := enc) (C := Tryd.checked) (os := os) (X := fun w _ => laidMetH Tryd.prog Rows.reachDistRow.laid w) false (World.laidAll Tryd.prog os Rows.reachDistRow.laid) #[.agg #[.int .i64 0, .slice none 0 0], .int .u64 0] 8 (World.laidAll_os _ _ _)
      (World.shaped_of_ZipB (by kernel_rfl) (by kernel_rfl)) (by kernel_rfl) (by kernel_rfl) (by kernel_rfl)
      (by rw [MakeChecks.laidMetH_plain _ _ _ (by kernel_rfl)]; exact laidMet_laidAll _ (by kernel_rfl) (by kernel_rfl))) ?_
  intro W base args ds gs before hval0 hW hsz0 hL hsh
  have hval : ∀ (j : Nat) t v, Tryd.f7.params[j]? = some t → args[j]? = some v → Value.okWide Tryd.prog W .any base t v := hval0
  have hW' := hW
  obtain ⟨p, q, hA0, hV, rfl, hfz, hnd⟩ := hW
  have hA : DataW.TrodAll enc Tryd.prog W 0 (fun _ => true) true Tryd.f7.params.toList args.toList ds p := hA0
  rw [Tryd.params7] at hA hval
  obtain ⟨v0, vs0, d0, ds0, p0, q0, hargs, rfl, rfl, h0, r0⟩ := trodAll_cons hA
  obtain ⟨v1, vs1, d1, ds1, p1, q1, rfl, rfl, rfl, h1, r1⟩ := trodAll_cons r0
  obtain ⟨rfl, rfl, rfl⟩ := trodAll_nil r1
  obtain rfl : args = #[v0, v1] := by cases args; simp_all
  obtain ⟨rfl, rfl⟩ := trodVars_none hV
  obtain ⟨n0, u0, ls0, rfl, hg0, hn0, hr0, hf0⟩ := open_heap (hval 0 24 v0 rfl rfl) h0
  obtain ⟨a1, rfl, rfl, rfl, w1⟩ := open_int Tryd.underlying53 (hval 1 53 v1 rfl rfl) h1
  have hx1 : 0 ≤ a1 ∧ a1 ≤ 18446744073709551615 := by simpa [Lit.wf, IntKind.min, IntKind.max, IntKind.signed, IntKind.bits] using w1
  obtain ⟨n1, rfl⟩ : ∃ n : Nat, a1 = n := ⟨a1.toNat, by omega⟩
  have hsz : (DataW.weightsEach Tryd.prog [24, 53] ([d0, .lit (.int .u64 n1)] : List (DataW H))).all (· ≤ reachBytes) = true := hsz0
  have e0 : Fit ls0 := hf0 fun k hk => by have h1 := List.all_eq_true.1 hsz k (DataW.weights_mem_each (j := 0) rfl rfl k hk); simpa [reachBytes] using of_decide_eq_true h1
  have hE := envT_of_laid hL
  refine (walk n0 _ ls0 n1 W hg0 (by omega) hE).mono fun e W' ⟨he, hg⟩ => ?_
  subst he
  exact ⟨_, rfl, law_post laidOutL (by kernel_rfl) rfl Tryd.underlying4 rfl ⟨rfl, rfl, rfl⟩ hW' hg⟩
theorem row_holds : Rows.ReachDistSaid :=
  OpenClaim.holds_of_wide 7 Tryd.f7 rfl rfl rfl rfl rfl rfl rfl ⟨rfl, rfl, rfl, rfl, rfl⟩ rfl rfl rfl rfl rfl (by kernel_rfl) Tryd.func7 (by kernel_rfl)
    (of_decide_eq_true (by kernel_rfl)) (by unfold Func.isWrapper; first | (rw [if_pos (by decide +kernel)]; kernel_rfl) | (rw [if_neg (by decide +kernel)]; exact ⟨rfl, rfl⟩))
    (fun os started H enc _ => lifted os started H enc)

/-- THE STATEMENT -/
theorem proved : Rows.ReachDistCardSaid :=
  Claim7.holds_tied_plain_at .later [] Rows.reachDistCard.laidKinds true Rows.reachDistCard.stood.harness Rows.reachDistCard.stood.looks
    row_holds (fun _ h => by cases h) (by kernel_rfl) (fun _ h => by cases h) reachDist_row_tie rfl ⟨rfl, rfl⟩ (by kernel_rfl) rfl
    (fun f fn hf hfn => by
      obtain rfl : f = 7 := Option.some.inj ((show Tryd.prog.funcNamed Rows.reachDistRow.func = some 7 by kernel_rfl).symm.trans hf) |>.symm
      obtain rfl : fn = Tryd.f7 := (Option.some.inj (Tryd.func7.symm.trans hfn)).symm
      exact ⟨by kernel_rfl, fun j t ht => by
        rw [Tryd.params7] at ht
        have hm : t ∈ [24, 53] := by simpa using Array.mem_of_getElem? ht
        have hall : ([24, 53].all fun u => !Tryd.prog.wantsStandIn u) = true := by kernel_rfl
        exact (show Tryd.prog.wantsStandIn t = false by simpa using List.all_eq_true.1 hall t hm)⟩)
    (by kernel_rfl)
end Go.Proofs.YtohfpcnekfpdkaaDoor.lawReachDist
