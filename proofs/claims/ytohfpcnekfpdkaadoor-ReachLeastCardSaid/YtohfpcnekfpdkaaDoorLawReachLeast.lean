/- ReachLeast: for any heap, roots and object: what is reached has the roots, and what is in its slots; and it is the least such. No condition beside the listed table, which the card ties to the text. -/
import Derived.Test.YtohfpcnekfpdkaaDoorReachTied
import Derived.Test.YtohfpcnekfpdkaaDoorHeapUse0
import Derived.Test.YtohfpcnekfpdkaaDoorReachL
namespace Go.Proofs.YtohfpcnekfpdkaaDoor.lawReachLeast
open Go.RowKit Go.WideShapes Go.ChangeShapes Go.ChangeAt Go.Proofs Go.Proofs.YtohfpcnekfpdkaaDoor

set_option maxRecDepth 100000 in
set_option maxHeartbeats 8000000 in
theorem walk_wrong (n : Int) (vh : Value) (ls : Rws) (r : Nat) (o a : Int) (w : World) (hh : Grid w vh ls) (_hr : r < 18446744073709551616) (_ho : 0 ≤ o ∧ o ≤ 255) (hE : EnvT w) (ea : o % 64 = a) (hRt : rightF n ls = false) :
    Calls Tryd.prog 5 #[hv n vh, .int .u64 r, .int .u8 o] w fun e w' => e = .returned (.bool true) ∧ Below w.heap.size w w' := by
  have GH := hide hh
  have HE := hide hE
  have hB : Below w.heap.size w w := Below.refl _ _
  have ha : 0 ≤ a ∧ a < 64 := by omega
  obtain ⟨A, c, rfl, h1, h2⟩ := hh.form
  unfold maxLen at h2
  obtain ⟨L, hL⟩ : ∃ L, ls.length = L := ⟨_, rfl⟩
  rw [hL] at GH h1 ⊢
  have hRt := hide hRt
  clear hh hE
  obtain ⟨wp0_, ep0_, hbp0_, hltp0_, -, x0p_, y0p_⟩ := box1 w (.int .i64 n) (.slice A L c) 24
  have HEP0_ := hide ep0_
  clear ep0_
  have GH := hide (GH.out.below hbp0_)
  have HE := hide (HE.out.below hbp0_)
  have hB := bcall hB hbp0_
  go_enter Tryd.func5, Tryd.ntmps5
  go_wp2_with fail
  rw [HEP0_.out]
  (with_reducible refine (examples_any _ HE.out).mono ?_)
  rintro e w0_ ⟨rfl, hb0_⟩
  have x0p_ := keepc hb0_ x0p_
  have y0p_ := keepc hb0_ y0p_
  have GH := hide (GH.out.below hb0_)
  have HE := hide (HE.out.below hb0_)
  have hB := bcall hB hb0_
  go_wp2_with fail
  (with_reducible refine (Right_c n _ ls _ GH.out _ hRt.out).mono ?_)
  rintro e w1_ ⟨rfl, hb1_⟩
  have x0p_ := keepc hb1_ x0p_
  have y0p_ := keepc hb1_ y0p_
  have GH := hide (GH.out.below hb1_)
  have HE := hide (HE.out.below hb1_)
  have hB := bcall hB hb1_
  go_wp2
  go_ret
  exact ⟨rfl, hB⟩

set_option maxRecDepth 100000 in
set_option maxHeartbeats 8000000 in
theorem walk_true (N : Nat) (vh : Value) (ls : Rws) (r : Nat) (o a : Int) (w : World) (hh : Grid w vh ls) (hr : r < 18446744073709551616) (ho : 0 ≤ o ∧ o ≤ 255) (hE : EnvT w) (ea : o % 64 = a) (hRt : rightF N ls = true) (hq : hasF r (a + 1) = true) :
    Calls Tryd.prog 5 #[hv (N : Int) vh, .int .u64 r, .int .u8 o] w fun e w' => e = .returned (.bool true) ∧ Below w.heap.size w w' := by
  have GH := hide hh
  have HE := hide hE
  have hB : Below w.heap.size w w := Below.refl _ _
  have ha : 0 ≤ a ∧ a < 64 := by omega
  obtain ⟨A, c, rfl, h1, h2⟩ := hh.form
  unfold maxLen at h2
  obtain ⟨L, hL⟩ : ∃ L, ls.length = L := ⟨_, rfl⟩
  rw [hL] at GH h1 ⊢
  obtain ⟨S, hS⟩ : ∃ X, fromF ls r = X := ⟨_, rfl⟩
  have hSl : S < 18446744073709551616 := hS ▸ from_lt ls hr
  have hR3 := right_len hRt
  rw [hL] at hR3
  obtain ⟨F, hFL⟩ : ∃ F, firstF (L : Int) = F := ⟨_, rfl⟩
  have hFl : F < 18446744073709551616 := hFL ▸ first_lt _
  have hrf := land_lt F hr
  have hU := from_own ls hr
  rw [hL, hS, hFL] at hU
  have hU1 := hide hU.2
  have hU2 := hide hU.1
  have hand := bits_and_u64_nat r F hr hFl
  have hfin := led_fin hRt hr (x := a + 1) (by omega)
  rw [hS, hL, hq] at hfin
  have hfin := hide (show hasF S (a + 1) = ledK ls S (a + 1) (decide (a + 1 ≤ (L : Int))) L by rw [hfin]; rfl)
  have hcl := hide (show ∀ i j : Nat, i < L → j < N → hasF S ((i : Int) + 1) = true → getF ls ((i : Int) + 1) j ≠ 0 → hasF S (getF ls ((i : Int) + 1) j) = true from fun i j hi hj h h0 => by
    rw [← hS] at h ⊢; exact from_shut hRt hr (by omega) (by omega) h h0)
  have hgt := hide (show ∀ i j : Nat, i < L → j < N → hasS ls ((i : Int) + 1) j = true ∧ (rowF ls ((i : Int) + 1))[j]? = some (getF ls ((i : Int) + 1) j) ∧ (rowF ls ((i : Int) + 1)).length = N ∧ 0 ≤ getF ls ((i : Int) + 1) j ∧ getF ls ((i : Int) + 1) j ≤ L from fun i j hi hj => by
    obtain ⟨p1, p2, p3, p4, p5⟩ := right_get hRt (i := i) (j := j) (by omega) (by omega)
    exact ⟨p1, p2, by omega, p4, by omega⟩)
  have hRt := hide hRt
  have hq := hide hq
  have hFL := hide (show ((firstF (L : Int) : Nat) : Int) = F by rw [hFL])
  have hS := hide (show ((fromF ls r : Nat) : Int) = S by rw [hS])
  clear hU
  clear hh hE
  obtain ⟨wp0_, ep0_, hbp0_, hltp0_, -, x0p_, y0p_⟩ := box1 w (.int .i64 (N : Int)) (.slice A L c) 24
  have HEP0_ := hide ep0_
  clear ep0_
  have GH := hide (GH.out.below hbp0_)
  have HE := hide (HE.out.below hbp0_)
  have hB := bcall hB hbp0_
  go_enter Tryd.func5, Tryd.ntmps5
  go_wp2_with fail
  rw [HEP0_.out]
  (with_reducible refine (examples_any _ HE.out).mono ?_)
  rintro e w0_ ⟨rfl, hb0_⟩
  have x0p_ := keepc hb0_ x0p_
  have y0p_ := keepc hb0_ y0p_
  have GH := hide (GH.out.below hb0_)
  have HE := hide (HE.out.below hb0_)
  have hB := bcall hB hb0_
  go_wp2_with fail
  (with_reducible refine (Right_c (N : Int) _ ls _ GH.out _ hRt.out).mono ?_)
  rintro e w1_ ⟨rfl, hb1_⟩
  have x0p_ := keepc hb1_ x0p_
  have y0p_ := keepc hb1_ y0p_
  have GH := hide (GH.out.below hb1_)
  have HE := hide (HE.out.below hb1_)
  have hB := bcall hB hb1_
  go_wp2_with fail
  (with_reducible refine (From_c (N : Int) _ ls r _ hr GH.out HE.out _ rfl S hS.out).mono ?_)
  rintro e w2_ ⟨rfl, hb2_⟩
  have x0p_ := keepc hb2_ x0p_
  have y0p_ := keepc hb2_ y0p_
  have GH := hide (GH.out.below hb2_)
  have HE := hide (HE.out.below hb2_)
  have hB := bcall hB hb2_
  go_wp2_with fail
  go_loopw [10] (fun i wi => ∃ k : Nat, k ≤ L ∧ i = .int .i64 ((k : Int) + 1) ∧ Below w2_.heap.size w2_ wi) (fun i _ => L + 1 - (Go.RowKit.intOf i).toNat)
  case atStart => exact ⟨0, Nat.zero_le _, rfl, Below.refl _ _⟩
  case round =>
    obtain ⟨k, hk, rfl, hb⟩ := hrel
    have x0p_ := keepc hb x0p_
    have y0p_ := keepc hb y0p_
    have GH := hide (GH.out.below hb)
    have HE := hide (HE.out.below hb)
    have hB := bcall hB hb
    by_cases hlt : k < L
    · have hd1 : decide ((k : Int) + 1 ≤ (L : Int)) = true := decide_eq_true (by omega)
      go_wp2
      go_loopw [11] (fun i wi => ∃ j : Nat, j ≤ N ∧ i = .int .i64 j ∧ Below wr.heap.size wr wi) (fun i _ => N - (Go.RowKit.intOf i).toNat)
      case atStart => exact ⟨0, Nat.zero_le _, rfl, Below.refl _ _⟩
      case round =>
        obtain ⟨j, hj, rfl, hbi⟩ := hrel
        have x0p_ := keepc hbi x0p_
        have y0p_ := keepc hbi y0p_
        have GH := hide (GH.out.below hbi)
        have HE := hide (HE.out.below hbi)
        have hB := bcall hB hbi
        by_cases hlj : j < N
        · obtain ⟨q, hq⟩ : ∃ q, hasF S ((k : Int) + 1) = q := ⟨_, rfl⟩
          have HQ := hide hq
          obtain ⟨v, hv⟩ : ∃ v, getF ls ((k : Int) + 1) j = v := ⟨_, rfl⟩
          obtain ⟨g1, -, -, g2, g3⟩ := hgt.out k j hlt hlj
          have g4 := hcl.out k j hlt hlj
          rw [hv] at g2 g3 g4
          have G1 := hide g1
          have HV := hide hv
          have G4 := hide g4
          clear hq hv g1 g4
          cases q with
          | false =>
            go_wp2_with fail
            (with_reducible refine (Has_any S ((k : Int) + 1) _ hSl (by omega) (by omega)).mono ?_)
            rintro e w3_ ⟨rfl, rfl⟩
            rw [HQ.out]
            go_wp2
            go_roundw
            case rel => exact ⟨k + 1, by omega, by go_num, bcall hb hbi⟩
            case measure => simp [Go.RowKit.intOf]; omega
          | true =>
            go_wp2_with fail
            (with_reducible refine (Has_any S ((k : Int) + 1) _ hSl (by omega) (by omega)).mono ?_)
            rintro e w4_ ⟨rfl, rfl⟩
            rw [HQ.out]
            go_wp2_with fail
            (with_reducible refine (Get_c (N : Int) _ ls _ _ _ GH.out v HV.out true G1.out).mono ?_)
            rintro e w5_ ⟨rfl, hb5_⟩
            have x0p_ := keepc hb5_ x0p_
            have y0p_ := keepc hb5_ y0p_
            have GH := hide (GH.out.below hb5_)
            have HE := hide (HE.out.below hb5_)
            have hB := bcall hB hb5_
            by_cases hv0 : v = 0
            · subst hv0
              go_wp2
              go_roundw
              case rel => exact ⟨j + 1, by omega, by go_num, bcall hbi hb5_⟩
              case measure => simp [Go.RowKit.intOf]; omega
            · have hvb : (v != 0) = true := by simpa using hv0
              have HVS := hide (G4.out HQ.out hv0)
              go_wp2_with fail
              (with_reducible refine (Has_any S v _ hSl (by omega) (by omega)).mono ?_)
              rintro e w6_ ⟨rfl, rfl⟩
              rw [HVS.out]
              go_wp2
              go_roundw
              case rel => exact ⟨j + 1, by omega, by go_num, bcall hbi hb5_⟩
              case measure => simp [Go.RowKit.intOf]; omega
        · go_wp2
          go_roundw
          case rel => exact ⟨k + 1, by omega, by go_num, bcall hb hbi⟩
          case measure => simp [Go.RowKit.intOf]; omega
    · skip
      go_wp2_with fail
      (with_reducible refine (Has_any r (a + 1) _ hr (by omega) (by omega)).mono ?_)
      rintro e w7_ ⟨rfl, rfl⟩
      rw [hq.out]
      go_wp2_with fail
      go_loopw [15, 16] (fun led i wi => ∃ k : Nat, k ≤ L ∧ i = .int .i64 ((k : Int) + 1) ∧ led = .bool (ledK ls S (a + 1) (decide (a + 1 ≤ (L : Int))) k) ∧ Below w7_.heap.size w7_ wi) (fun _ i _ => L + 1 - (Go.RowKit.intOf i).toNat)
      case atStart => exact ⟨0, Nat.zero_le _, rfl, by rw [ledK_zero], Below.refl _ _⟩
      case round =>
        clear hlt hb
        obtain ⟨k, hk, rfl, rfl, hb⟩ := hrel
        have x0p_ := keepc hb x0p_
        have y0p_ := keepc hb y0p_
        have GH := hide (GH.out.below hb)
        have HE := hide (HE.out.below hb)
        have hB := bcall hB hb
        by_cases hlt : k < L
        · have hd1 : decide ((k : Int) + 1 ≤ (L : Int)) = true := decide_eq_true (by omega)
          go_wp2
          go_loopw [15, 17] (fun led i wi => ∃ j : Nat, j ≤ N ∧ i = .int .i64 j ∧ led = .bool (ledJ ls S (a + 1) (decide (a + 1 ≤ (L : Int))) k j) ∧ Below wr.heap.size wr wi) (fun _ i _ => N - (Go.RowKit.intOf i).toNat)
          case atStart => exact ⟨0, Nat.zero_le _, rfl, by rw [ledJ_zero], Below.refl _ _⟩
          case round =>
            obtain ⟨j, hj, rfl, rfl, hbi⟩ := hrel
            have x0p_ := keepc hbi x0p_
            have y0p_ := keepc hbi y0p_
            have GH := hide (GH.out.below hbi)
            have HE := hide (HE.out.below hbi)
            have hB := bcall hB hbi
            by_cases hlj : j < N
            · obtain ⟨g1, gr, gl, g2, g3⟩ := hgt.out k j hlt hlj
              by_cases hka : (k : Int) = a
              · have hsm := hide (ledJ_same (ls := ls) (S := S) (x := a + 1) (b0 := (decide (a + 1 ≤ (L : Int)))) (k := k) (j := j) (by omega))
                obtain ⟨bb, hbb⟩ : ∃ bb, ledJ ls S (a + 1) (decide (a + 1 ≤ (L : Int))) k j = bb := ⟨_, rfl⟩
                have HBB := hide hbb
                rw [hbb]
                have hnb : ((k : Int) != a) = false := by simpa using hka
                clear hbb g1 gr gl g2 g3 hka
                go_wp2
                go_roundw
                case rel => exact ⟨k + 1, by omega, by go_num, by rw [← hsm.out, HBB.out], bcall hb hbi⟩
                case measure => simp [Go.RowKit.intOf]; omega
              · have hnb : ((k : Int) != a) = true := by simpa using hka
                obtain ⟨v, hv⟩ : ∃ v, getF ls ((k : Int) + 1) j = v := ⟨_, rfl⟩
                rw [hv] at gr g2 g3
                have hst := hide (ledJ_step (ls := ls) (S := S) (x := a + 1) (b0 := (decide (a + 1 ≤ (L : Int)))) (k := k) (j := j) (v := v) (by omega) gr)
                obtain ⟨bb, hbb⟩ : ∃ bb, ledJ ls S (a + 1) (decide (a + 1 ≤ (L : Int))) k j = bb := ⟨_, rfl⟩
                have HBB := hide hbb
                rw [hbb]
                have G1 := hide g1
                have HV := hide hv
                clear hbb g1 gr gl g2 g3 hv
                go_wp2_with fail
                (with_reducible refine (Get_c (N : Int) _ ls _ _ _ GH.out v HV.out true G1.out).mono ?_)
                rintro e w8_ ⟨rfl, hb8_⟩
                have x0p_ := keepc hb8_ x0p_
                have y0p_ := keepc hb8_ y0p_
                have GH := hide (GH.out.below hb8_)
                have HE := hide (HE.out.below hb8_)
                have hB := bcall hB hb8_
                cases bb with
                | true =>
                  go_wp2
                  go_roundw
                  case rel => exact ⟨j + 1, by omega, by go_num, by rw [hst.out, HBB.out]; rfl, bcall hbi hb8_⟩
                  case measure => simp [Go.RowKit.intOf]; omega
                | false =>
                  by_cases hvx : v = a + 1
                  · subst hvx
                    obtain ⟨hs, hhs⟩ : ∃ hs, hasF S ((k : Int) + 1) = hs := ⟨_, rfl⟩
                    have HHS := hide hhs
                    clear hhs
                    go_wp2_with fail
                    (with_reducible refine (Has_any S ((k : Int) + 1) _ hSl (by omega) (by omega)).mono ?_)
                    rintro e w9_ ⟨rfl, rfl⟩
                    rw [HHS.out]
                    cases hs with
                    | true =>
                      go_wp2
                      go_roundw
                      case rel => exact ⟨j + 1, by omega, by go_num, by rw [hst.out, HBB.out, HHS.out]; simp, bcall hbi hb8_⟩
                      case measure => simp [Go.RowKit.intOf]; omega
                    | false =>
                      go_wp2
                      go_roundw
                      case rel => exact ⟨j + 1, by omega, by go_num, by rw [hst.out, HBB.out, HHS.out]; simp, bcall hbi hb8_⟩
                      case measure => simp [Go.RowKit.intOf]; omega
                  · have hvb : (v == a + 1) = false := by simpa using hvx
                    have HVB := hide hvb
                    go_wp2
                    go_roundw
                    case rel => exact ⟨j + 1, by omega, by go_num, by rw [hst.out, HBB.out, HVB.out]; rfl, bcall hbi hb8_⟩
                    case measure => simp [Go.RowKit.intOf]; omega
            · obtain ⟨g1, gr, gl, g2, g3⟩ := hgt.out k 0 hlt (by omega)
              have hen := hide (ledJ_end (ls := ls) (S := S) (x := a + 1) (b0 := (decide (a + 1 ≤ (L : Int)))) (k := k) (j := j) (by omega))
              clear g1 gr gl g2 g3
              obtain ⟨bb, hbb⟩ : ∃ bb, ledJ ls S (a + 1) (decide (a + 1 ≤ (L : Int))) k j = bb := ⟨_, rfl⟩
              have HBB := hide hbb
              rw [hbb]
              clear hbb
              go_wp2
              go_roundw
              case rel => exact ⟨k + 1, by omega, by go_num, by rw [← hen.out, HBB.out], bcall hb hbi⟩
              case measure => simp [Go.RowKit.intOf]; omega
        · obtain rfl : k = L := by omega
          obtain ⟨z, hz⟩ : ∃ z, ledK ls S (a + 1) (decide (a + 1 ≤ (k : Int))) k = z := ⟨_, rfl⟩
          rw [hz]
          rw [hz] at hfin
          have HFIN := hide hfin.out
          clear hz
          go_wp2_with fail
          (with_reducible refine (First_any (k : Int) _ (by omega) (by omega)).mono ?_)
          rintro e w10_ ⟨rfl, rfl⟩
          rw [hFL.out]
          go_wp2_with fail
          (with_reducible refine (Under_any (r &&& F) S _ hrf hSl).mono ?_)
          rintro e w11_ ⟨rfl, rfl⟩
          rw [hU1.out]
          go_wp2_with fail
          (with_reducible refine (First_any (k : Int) _ (by omega) (by omega)).mono ?_)
          rintro e w12_ ⟨rfl, rfl⟩
          rw [hFL.out]
          go_wp2_with fail
          (with_reducible refine (Under_any S F _ hSl hFl).mono ?_)
          rintro e w13_ ⟨rfl, rfl⟩
          rw [hU2.out]
          go_wp2_with fail
          (with_reducible refine (Has_any S (a + 1) _ hSl (by omega) (by omega)).mono ?_)
          rintro e w14_ ⟨rfl, rfl⟩
          rw [HFIN.out]
          go_wp2
          go_ret
          exact ⟨rfl, hB⟩

set_option maxRecDepth 100000 in
set_option maxHeartbeats 8000000 in
theorem walk_false (N : Nat) (vh : Value) (ls : Rws) (r : Nat) (o a : Int) (w : World) (hh : Grid w vh ls) (hr : r < 18446744073709551616) (ho : 0 ≤ o ∧ o ≤ 255) (hE : EnvT w) (ea : o % 64 = a) (hRt : rightF N ls = true) (hq : hasF r (a + 1) = false) :
    Calls Tryd.prog 5 #[hv (N : Int) vh, .int .u64 r, .int .u8 o] w fun e w' => e = .returned (.bool true) ∧ Below w.heap.size w w' := by
  have GH := hide hh
  have HE := hide hE
  have hB : Below w.heap.size w w := Below.refl _ _
  have ha : 0 ≤ a ∧ a < 64 := by omega
  obtain ⟨A, c, rfl, h1, h2⟩ := hh.form
  unfold maxLen at h2
  obtain ⟨L, hL⟩ : ∃ L, ls.length = L := ⟨_, rfl⟩
  rw [hL] at GH h1 ⊢
  obtain ⟨S, hS⟩ : ∃ X, fromF ls r = X := ⟨_, rfl⟩
  have hSl : S < 18446744073709551616 := hS ▸ from_lt ls hr
  have hR3 := right_len hRt
  rw [hL] at hR3
  obtain ⟨F, hFL⟩ : ∃ F, firstF (L : Int) = F := ⟨_, rfl⟩
  have hFl : F < 18446744073709551616 := hFL ▸ first_lt _
  have hrf := land_lt F hr
  have hU := from_own ls hr
  rw [hL, hS, hFL] at hU
  have hU1 := hide hU.2
  have hU2 := hide hU.1
  have hand := bits_and_u64_nat r F hr hFl
  have hfin := led_fin hRt hr (x := a + 1) (by omega)
  rw [hS, hL, hq] at hfin
  have hfin := hide (show hasF S (a + 1) = ledK ls S (a + 1) false L by rw [hfin]; rfl)
  have hcl := hide (show ∀ i j : Nat, i < L → j < N → hasF S ((i : Int) + 1) = true → getF ls ((i : Int) + 1) j ≠ 0 → hasF S (getF ls ((i : Int) + 1) j) = true from fun i j hi hj h h0 => by
    rw [← hS] at h ⊢; exact from_shut hRt hr (by omega) (by omega) h h0)
  have hgt := hide (show ∀ i j : Nat, i < L → j < N → hasS ls ((i : Int) + 1) j = true ∧ (rowF ls ((i : Int) + 1))[j]? = some (getF ls ((i : Int) + 1) j) ∧ (rowF ls ((i : Int) + 1)).length = N ∧ 0 ≤ getF ls ((i : Int) + 1) j ∧ getF ls ((i : Int) + 1) j ≤ L from fun i j hi hj => by
    obtain ⟨p1, p2, p3, p4, p5⟩ := right_get hRt (i := i) (j := j) (by omega) (by omega)
    exact ⟨p1, p2, by omega, p4, by omega⟩)
  have hRt := hide hRt
  have hq := hide hq
  have hFL := hide (show ((firstF (L : Int) : Nat) : Int) = F by rw [hFL])
  have hS := hide (show ((fromF ls r : Nat) : Int) = S by rw [hS])
  clear hU
  clear hh hE
  obtain ⟨wp0_, ep0_, hbp0_, hltp0_, -, x0p_, y0p_⟩ := box1 w (.int .i64 (N : Int)) (.slice A L c) 24
  have HEP0_ := hide ep0_
  clear ep0_
  have GH := hide (GH.out.below hbp0_)
  have HE := hide (HE.out.below hbp0_)
  have hB := bcall hB hbp0_
  go_enter Tryd.func5, Tryd.ntmps5
  go_wp2_with fail
  rw [HEP0_.out]
  (with_reducible refine (examples_any _ HE.out).mono ?_)
  rintro e w0_ ⟨rfl, hb0_⟩
  have x0p_ := keepc hb0_ x0p_
  have y0p_ := keepc hb0_ y0p_
  have GH := hide (GH.out.below hb0_)
  have HE := hide (HE.out.below hb0_)
  have hB := bcall hB hb0_
  go_wp2_with fail
  (with_reducible refine (Right_c (N : Int) _ ls _ GH.out _ hRt.out).mono ?_)
  rintro e w1_ ⟨rfl, hb1_⟩
  have x0p_ := keepc hb1_ x0p_
  have y0p_ := keepc hb1_ y0p_
  have GH := hide (GH.out.below hb1_)
  have HE := hide (HE.out.below hb1_)
  have hB := bcall hB hb1_
  go_wp2_with fail
  (with_reducible refine (From_c (N : Int) _ ls r _ hr GH.out HE.out _ rfl S hS.out).mono ?_)
  rintro e w2_ ⟨rfl, hb2_⟩
  have x0p_ := keepc hb2_ x0p_
  have y0p_ := keepc hb2_ y0p_
  have GH := hide (GH.out.below hb2_)
  have HE := hide (HE.out.below hb2_)
  have hB := bcall hB hb2_
  go_wp2_with fail
  go_loopw [10] (fun i wi => ∃ k : Nat, k ≤ L ∧ i = .int .i64 ((k : Int) + 1) ∧ Below w2_.heap.size w2_ wi) (fun i _ => L + 1 - (Go.RowKit.intOf i).toNat)
  case atStart => exact ⟨0, Nat.zero_le _, rfl, Below.refl _ _⟩
  case round =>
    obtain ⟨k, hk, rfl, hb⟩ := hrel
    have x0p_ := keepc hb x0p_
    have y0p_ := keepc hb y0p_
    have GH := hide (GH.out.below hb)
    have HE := hide (HE.out.below hb)
    have hB := bcall hB hb
    by_cases hlt : k < L
    · have hd1 : decide ((k : Int) + 1 ≤ (L : Int)) = true := decide_eq_true (by omega)
      go_wp2
      go_loopw [11] (fun i wi => ∃ j : Nat, j ≤ N ∧ i = .int .i64 j ∧ Below wr.heap.size wr wi) (fun i _ => N - (Go.RowKit.intOf i).toNat)
      case atStart => exact ⟨0, Nat.zero_le _, rfl, Below.refl _ _⟩
      case round =>
        obtain ⟨j, hj, rfl, hbi⟩ := hrel
        have x0p_ := keepc hbi x0p_
        have y0p_ := keepc hbi y0p_
        have GH := hide (GH.out.below hbi)
        have HE := hide (HE.out.below hbi)
        have hB := bcall hB hbi
        by_cases hlj : j < N
        · obtain ⟨q, hq⟩ : ∃ q, hasF S ((k : Int) + 1) = q := ⟨_, rfl⟩
          have HQ := hide hq
          obtain ⟨v, hv⟩ : ∃ v, getF ls ((k : Int) + 1) j = v := ⟨_, rfl⟩
          obtain ⟨g1, -, -, g2, g3⟩ := hgt.out k j hlt hlj
          have g4 := hcl.out k j hlt hlj
          rw [hv] at g2 g3 g4
          have G1 := hide g1
          have HV := hide hv
          have G4 := hide g4
          clear hq hv g1 g4
          cases q with
          | false =>
            go_wp2_with fail
            (with_reducible refine (Has_any S ((k : Int) + 1) _ hSl (by omega) (by omega)).mono ?_)
            rintro e w3_ ⟨rfl, rfl⟩
            rw [HQ.out]
            go_wp2
            go_roundw
            case rel => exact ⟨k + 1, by omega, by go_num, bcall hb hbi⟩
            case measure => simp [Go.RowKit.intOf]; omega
          | true =>
            go_wp2_with fail
            (with_reducible refine (Has_any S ((k : Int) + 1) _ hSl (by omega) (by omega)).mono ?_)
            rintro e w4_ ⟨rfl, rfl⟩
            rw [HQ.out]
            go_wp2_with fail
            (with_reducible refine (Get_c (N : Int) _ ls _ _ _ GH.out v HV.out true G1.out).mono ?_)
            rintro e w5_ ⟨rfl, hb5_⟩
            have x0p_ := keepc hb5_ x0p_
            have y0p_ := keepc hb5_ y0p_
            have GH := hide (GH.out.below hb5_)
            have HE := hide (HE.out.below hb5_)
            have hB := bcall hB hb5_
            by_cases hv0 : v = 0
            · subst hv0
              go_wp2
              go_roundw
              case rel => exact ⟨j + 1, by omega, by go_num, bcall hbi hb5_⟩
              case measure => simp [Go.RowKit.intOf]; omega
            · have hvb : (v != 0) = true := by simpa using hv0
              have HVS := hide (G4.out HQ.out hv0)
              go_wp2_with fail
              (with_reducible refine (Has_any S v _ hSl (by omega) (by omega)).mono ?_)
              rintro e w6_ ⟨rfl, rfl⟩
              rw [HVS.out]
              go_wp2
              go_roundw
              case rel => exact ⟨j + 1, by omega, by go_num, bcall hbi hb5_⟩
              case measure => simp [Go.RowKit.intOf]; omega
        · go_wp2
          go_roundw
          case rel => exact ⟨k + 1, by omega, by go_num, bcall hb hbi⟩
          case measure => simp [Go.RowKit.intOf]; omega
    · skip
      go_wp2_with fail
      (with_reducible refine (Has_any r (a + 1) _ hr (by omega) (by omega)).mono ?_)
      rintro e w7_ ⟨rfl, rfl⟩
      rw [hq.out]
      go_wp2_with fail
      go_loopw [15, 16] (fun led i wi => ∃ k : Nat, k ≤ L ∧ i = .int .i64 ((k : Int) + 1) ∧ led = .bool (ledK ls S (a + 1) false k) ∧ Below w7_.heap.size w7_ wi) (fun _ i _ => L + 1 - (Go.RowKit.intOf i).toNat)
      case atStart => exact ⟨0, Nat.zero_le _, rfl, by rw [ledK_zero], Below.refl _ _⟩
      case round =>
        clear hlt hb
        obtain ⟨k, hk, rfl, rfl, hb⟩ := hrel
        have x0p_ := keepc hb x0p_
        have y0p_ := keepc hb y0p_
        have GH := hide (GH.out.below hb)
        have HE := hide (HE.out.below hb)
        have hB := bcall hB hb
        by_cases hlt : k < L
        · have hd1 : decide ((k : Int) + 1 ≤ (L : Int)) = true := decide_eq_true (by omega)
          go_wp2
          go_loopw [15, 17] (fun led i wi => ∃ j : Nat, j ≤ N ∧ i = .int .i64 j ∧ led = .bool (ledJ ls S (a + 1) false k j) ∧ Below wr.heap.size wr wi) (fun _ i _ => N - (Go.RowKit.intOf i).toNat)
          case atStart => exact ⟨0, Nat.zero_le _, rfl, by rw [ledJ_zero], Below.refl _ _⟩
          case round =>
            obtain ⟨j, hj, rfl, rfl, hbi⟩ := hrel
            have x0p_ := keepc hbi x0p_
            have y0p_ := keepc hbi y0p_
            have GH := hide (GH.out.below hbi)
            have HE := hide (HE.out.below hbi)
            have hB := bcall hB hbi
            by_cases hlj : j < N
            · obtain ⟨g1, gr, gl, g2, g3⟩ := hgt.out k j hlt hlj
              by_cases hka : (k : Int) = a
              · have hsm := hide (ledJ_same (ls := ls) (S := S) (x := a + 1) (b0 := false) (k := k) (j := j) (by omega))
                obtain ⟨bb, hbb⟩ : ∃ bb, ledJ ls S (a + 1) false k j = bb := ⟨_, rfl⟩
                have HBB := hide hbb
                rw [hbb]
                have hnb : ((k : Int) != a) = false := by simpa using hka
                clear hbb g1 gr gl g2 g3 hka
                go_wp2
                go_roundw
                case rel => exact ⟨k + 1, by omega, by go_num, by rw [← hsm.out, HBB.out], bcall hb hbi⟩
                case measure => simp [Go.RowKit.intOf]; omega
              · have hnb : ((k : Int) != a) = true := by simpa using hka
                obtain ⟨v, hv⟩ : ∃ v, getF ls ((k : Int) + 1) j = v := ⟨_, rfl⟩
                rw [hv] at gr g2 g3
                have hst := hide (ledJ_step (ls := ls) (S := S) (x := a + 1) (b0 := false) (k := k) (j := j) (v := v) (by omega) gr)
                obtain ⟨bb, hbb⟩ : ∃ bb, ledJ ls S (a + 1) false k j = bb := ⟨_, rfl⟩
                have HBB := hide hbb
                rw [hbb]
                have G1 := hide g1
                have HV := hide hv
                clear hbb g1 gr gl g2 g3 hv
                go_wp2_with fail
                (with_reducible refine (Get_c (N : Int) _ ls _ _ _ GH.out v HV.out true G1.out).mono ?_)
                rintro e w8_ ⟨rfl, hb8_⟩
                have x0p_ := keepc hb8_ x0p_
                have y0p_ := keepc hb8_ y0p_
                have GH := hide (GH.out.below hb8_)
                have HE := hide (HE.out.below hb8_)
                have hB := bcall hB hb8_
                cases bb with
                | true =>
                  go_wp2
                  go_roundw
                  case rel => exact ⟨j + 1, by omega, by go_num, by rw [hst.out, HBB.out]; rfl, bcall hbi hb8_⟩
                  case measure => simp [Go.RowKit.intOf]; omega
                | false =>
                  by_cases hvx : v = a + 1
                  · subst hvx
                    obtain ⟨hs, hhs⟩ : ∃ hs, hasF S ((k : Int) + 1) = hs := ⟨_, rfl⟩
                    have HHS := hide hhs
                    clear hhs
                    go_wp2_with fail
                    (with_reducible refine (Has_any S ((k : Int) + 1) _ hSl (by omega) (by omega)).mono ?_)
                    rintro e w9_ ⟨rfl, rfl⟩
                    rw [HHS.out]
                    cases hs with
                    | true =>
                      go_wp2
                      go_roundw
                      case rel => exact ⟨j + 1, by omega, by go_num, by rw [hst.out, HBB.out, HHS.out]; simp, bcall hbi hb8_⟩
                      case measure => simp [Go.RowKit.intOf]; omega
                    | false =>
                      go_wp2
                      go_roundw
                      case rel => exact ⟨j + 1, by omega, by go_num, by rw [hst.out, HBB.out, HHS.out]; simp, bcall hbi hb8_⟩
                      case measure => simp [Go.RowKit.intOf]; omega
                  · have hvb : (v == a + 1) = false := by simpa using hvx
                    have HVB := hide hvb
                    go_wp2
                    go_roundw
                    case rel => exact ⟨j + 1, by omega, by go_num, by rw [hst.out, HBB.out, HVB.out]; rfl, bcall hbi hb8_⟩
                    case measure => simp [Go.RowKit.intOf]; omega
            · obtain ⟨g1, gr, gl, g2, g3⟩ := hgt.out k 0 hlt (by omega)
              have hen := hide (ledJ_end (ls := ls) (S := S) (x := a + 1) (b0 := false) (k := k) (j := j) (by omega))
              clear g1 gr gl g2 g3
              obtain ⟨bb, hbb⟩ : ∃ bb, ledJ ls S (a + 1) false k j = bb := ⟨_, rfl⟩
              have HBB := hide hbb
              rw [hbb]
              clear hbb
              go_wp2
              go_roundw
              case rel => exact ⟨k + 1, by omega, by go_num, by rw [← hen.out, HBB.out], bcall hb hbi⟩
              case measure => simp [Go.RowKit.intOf]; omega
        · obtain rfl : k = L := by omega
          obtain ⟨z, hz⟩ : ∃ z, ledK ls S (a + 1) false k = z := ⟨_, rfl⟩
          rw [hz]
          rw [hz] at hfin
          have HFIN := hide hfin.out
          clear hz
          go_wp2_with fail
          (with_reducible refine (First_any (k : Int) _ (by omega) (by omega)).mono ?_)
          rintro e w10_ ⟨rfl, rfl⟩
          rw [hFL.out]
          go_wp2_with fail
          (with_reducible refine (Under_any (r &&& F) S _ hrf hSl).mono ?_)
          rintro e w11_ ⟨rfl, rfl⟩
          rw [hU1.out]
          go_wp2_with fail
          (with_reducible refine (First_any (k : Int) _ (by omega) (by omega)).mono ?_)
          rintro e w12_ ⟨rfl, rfl⟩
          rw [hFL.out]
          go_wp2_with fail
          (with_reducible refine (Under_any S F _ hSl hFl).mono ?_)
          rintro e w13_ ⟨rfl, rfl⟩
          rw [hU2.out]
          go_wp2_with fail
          (with_reducible refine (Has_any S (a + 1) _ hSl (by omega) (by omega)).mono ?_)
          rintro e w14_ ⟨rfl, rfl⟩
          rw [HFIN.out]
          go_wp2
          go_ret
          exact ⟨rfl, hB⟩

theorem walk (n : Int) (vh : Value) (ls : Rws) (r : Nat) (o : Int) (w : World) (hh : Grid w vh ls) (hr : r < 18446744073709551616) (ho : 0 ≤ o ∧ o ≤ 255) (hE : EnvT w) :
    Calls Tryd.prog 5 #[hv n vh, .int .u64 r, .int .u8 o] w fun e w' => e = .returned (.bool true) ∧ Below w.heap.size w w' := by
  cases hR : rightF n ls with
  | false => exact walk_wrong n vh ls r o _ w hh hr ho hE rfl hR
  | true =>
    obtain ⟨N, rfl⟩ : ∃ N : Nat, n = N := ⟨n.toNat, by have := right_len hR; omega⟩
    cases hq : hasF r (o % 64 + 1) with
    | false => exact walk_false N vh ls r o _ w hh hr ho hE rfl hR hq
    | true => exact walk_true N vh ls r o _ w hh hr ho hE rfl hR hq

set_option maxRecDepth 100000 in
theorem lifted (os : Os) (started : os.Started) (H : Type) (enc : TypeId × Value → H) :
    ReturnsInHanded {} Tryd.checked os 5 .any (fun w args => (Rows.reachLeastSpec.pre enc Tryd.prog Tryd.f5 Rows.reachLeastRow.domain false w args ∧ laidMetH Tryd.prog Rows.reachLeastRow.laid w) ∧ sizedMet enc Tryd.prog Tryd.f5 (OpenSpec.ofChange Rows.reachLeastSpec) false w args) (Rows.reachLeastSpec.post enc Tryd.prog Tryd.f5 false true false false) := by
  refine handed_and_shaped (C := Tryd.checked) (X := fun w _ => laidMetH Tryd.prog Rows.reachLeastRow.laid w) (fun _ _ _ hh h => h.of_heap hh) ownL started (by kernel_rfl) Tryd.func5
    (ChangeSpec.witness_shaped (enc := enc) (C := Tryd.checked) (os := os) (X := fun w _ => laidMetH Tryd.prog Rows.reachLeastRow.laid w) false (World.laidAll Tryd.prog os Rows.reachLeastRow.laid) #[.agg #[.int .i64 0, .slice none 0 0], .int .u64 0, .int .u8 0] 8 (World.laidAll_os _ _ _)
      (World.shaped_of_ZipB (by kernel_rfl) (by kernel_rfl)) (by kernel_rfl) (by kernel_rfl) (by kernel_rfl)
      (by rw [MakeChecks.laidMetH_plain _ _ _ (by kernel_rfl)]; exact laidMet_laidAll _ (by kernel_rfl) (by kernel_rfl))) ?_
  intro W base args ds gs before hval0 hW hsz0 hL hsh
  have hval : ∀ (j : Nat) t v, Tryd.f5.params[j]? = some t → args[j]? = some v → Value.okWide Tryd.prog W .any base t v := hval0
  have hW' := hW
  obtain ⟨p, q, hA0, hV, rfl, hfz, hnd⟩ := hW
  have hA : DataW.TrodAll enc Tryd.prog W 0 (fun _ => true) true Tryd.f5.params.toList args.toList ds p := hA0
  rw [Tryd.params5] at hA hval
  obtain ⟨v0, vs0, d0, ds0, p0, q0, hargs, rfl, rfl, h0, r0⟩ := trodAll_cons hA
  obtain ⟨v1, vs1, d1, ds1, p1, q1, rfl, rfl, rfl, h1, r1⟩ := trodAll_cons r0
  obtain ⟨v2, vs2, d2, ds2, p2, q2, rfl, rfl, rfl, h2, r2⟩ := trodAll_cons r1
  obtain ⟨rfl, rfl, rfl⟩ := trodAll_nil r2
  obtain rfl : args = #[v0, v1, v2] := by cases args; simp_all
  obtain ⟨rfl, rfl⟩ := trodVars_none hV
  obtain ⟨n0, u0, ls0, rfl, hg0, hn0, hr0, hf0⟩ := open_heap (hval 0 24 v0 rfl rfl) h0
  obtain ⟨a1, rfl, rfl, rfl, w1⟩ := open_int Tryd.underlying53 (hval 1 53 v1 rfl rfl) h1
  have hx1 : 0 ≤ a1 ∧ a1 ≤ 18446744073709551615 := by simpa [Lit.wf, IntKind.min, IntKind.max, IntKind.signed, IntKind.bits] using w1
  obtain ⟨n1, rfl⟩ : ∃ n : Nat, a1 = n := ⟨a1.toNat, by omega⟩
  obtain ⟨a2, rfl, rfl, rfl, w2⟩ := open_int Tryd.underlying5 (hval 2 5 v2 rfl rfl) h2
  have hx2 : 0 ≤ a2 ∧ a2 ≤ 255 := by simpa [Lit.wf, IntKind.min, IntKind.max, IntKind.signed, IntKind.bits] using w2
  have hsz : (DataW.weightsEach Tryd.prog [24, 53, 5] ([d0, .lit (.int .u64 n1), .lit (.int .u8 a2)] : List (DataW H))).all (· ≤ reachBytes) = true := hsz0
  have e0 : Fit ls0 := hf0 fun k hk => by have h1 := List.all_eq_true.1 hsz k (DataW.weights_mem_each (j := 0) rfl rfl k hk); simpa [reachBytes] using of_decide_eq_true h1
  have hE := envT_of_laid hL
  refine (walk n0 _ ls0 n1 a2 W hg0 (by omega) hx2 hE).mono fun e W' ⟨he, hg⟩ => ?_
  subst he
  exact ⟨_, rfl, law_post laidOutL (by kernel_rfl) rfl Tryd.underlying4 rfl ⟨rfl, rfl, rfl⟩ hW' hg⟩
theorem row_holds : Rows.ReachLeastSaid :=
  OpenClaim.holds_of_wide 5 Tryd.f5 rfl rfl rfl rfl rfl rfl rfl ⟨rfl, rfl, rfl, rfl, rfl⟩ rfl rfl rfl rfl rfl (by kernel_rfl) Tryd.func5 (by kernel_rfl)
    (of_decide_eq_true (by kernel_rfl)) (by unfold Func.isWrapper; first | (rw [if_pos (by decide +kernel)]; kernel_rfl) | (rw [if_neg (by decide +kernel)]; exact ⟨rfl, rfl⟩))
    (fun os started H enc _ => lifted os started H enc)

/-- THE STATEMENT -/
theorem proved : Rows.ReachLeastCardSaid :=
  Claim7.holds_tied_plain_at .later [] Rows.reachLeastCard.laidKinds true Rows.reachLeastCard.stood.harness Rows.reachLeastCard.stood.looks
    row_holds (fun _ h => by cases h) (by kernel_rfl) (fun _ h => by cases h) reachLeast_row_tie rfl ⟨rfl, rfl⟩ (by kernel_rfl) rfl
    (fun f fn hf hfn => by
      obtain rfl : f = 5 := Option.some.inj ((show Tryd.prog.funcNamed Rows.reachLeastRow.func = some 5 by kernel_rfl).symm.trans hf) |>.symm
      obtain rfl : fn = Tryd.f5 := (Option.some.inj (Tryd.func5.symm.trans hfn)).symm
      exact ⟨by kernel_rfl, fun j t ht => by
        rw [Tryd.params5] at ht
        have hm : t ∈ [24, 53, 5] := by simpa using Array.mem_of_getElem? ht
        have hall : ([24, 53, 5].all fun u => !Tryd.prog.wantsStandIn u) = true := by kernel_rfl
        exact (show Tryd.prog.wantsStandIn t = false by simpa using List.all_eq_true.1 hall t hm)⟩)
    (by kernel_rfl)
end Go.Proofs.YtohfpcnekfpdkaaDoor.lawReachLeast
