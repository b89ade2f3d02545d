/- TintRight: of any colours and a number: colours are right of so many objects just if none beyond is marked, and what is black is marked; then of more, too. No condition beside the listed tables, which the card ties to the text. -/
import Derived.Test.YtpffknlbffnafaaDoorTintStore
namespace Go.Proofs.YtpffknlbffnafaaDoor.lawTintRight
open Go.RowKit Go.WideShapes Go.ChangeShapes Go.ChangeAt Go.Shelf Go.Proofs Go.Proofs.YtpffknlbffnafaaDoor

set_option maxRecDepth 100000 in
set_option maxHeartbeats 8000000 in
theorem walk (m0 b0 : Nat) (l0 : m0 < 18446744073709551616) (l1 : b0 < 18446744073709551616) (a1 : Int) (ha1 : 0 ≤ a1 ∧ a1 ≤ 255) (w : World) (hE : EnvL w) : Calls Tryd.prog 8 #[tv m0 b0, .int .u8 a1] w fun e w' => e = .returned (.bool true) ∧ Below w.heap.size w w' := by
  have hB : Below w.heap.size w w := Below.refl _ _
  have HV := hide hE
  clear hE
  obtain ⟨K, hK⟩ : ∃ K, a1.tmod 70 = K := ⟨_, rfl⟩
  have hK0 : 0 ≤ K ∧ K ≤ 69 := by rw [Int.tmod_eq_emod_of_nonneg ha1.1] at hK; omega
  obtain ⟨K0, K1⟩ := hK0
  obtain ⟨z0, z1⟩ := ha1
  go_enter Tryd.func8, Tryd.ntmps8
  obtain ⟨w1, e1, hb1, hs1, t0, t1, -, -⟩ := box1 w (.int .u64 m0) (.int .u64 b0) 25
  have HE1 := hide e1
  clear e1
  replace HV := hide (HV.out.below hb1)
  replace hB := bcall hB hb1
  clear hb1
  go_wp2_with fail
  rw [HE1.out]
  (with_reducible refine (examples_any _ HV.out).mono ?_)
  rintro e w2 ⟨rfl, hb2⟩
  replace t0 := keepc hb2 t0
  replace t1 := keepc hb2 t1
  replace HV := hide (HV.out.below hb2)
  replace hB := bcall hB hb2
  have hs2 := hb2.size
  clear hb2
  go_wp2
  go_loopw [7, 8] (fun fv iv wr => ∃ k : Nat, k ≤ 64 ∧ iv = .int .i64 ((k : Int) + 1) ∧ fv = .bool (tFits m0 b0 K k) ∧ wr = w2) (fun _ iv _ => 65 - (Go.RowKit.intOf iv).toNat)
  case atStart => exact ⟨0, Nat.zero_le _, by go_num, rfl, rfl⟩
  case round =>
    obtain ⟨k, hk, rfl, rfl, rfl⟩ := hrel
    by_cases hlt : k < 64
    · have q2 : (k : Int) + 1 ≤ 64 := by omega
      cases hF : tFits m0 b0 K k
      · have HT := hide (show tFits m0 b0 K (k + 1) = false by show (tFits m0 b0 K k && tFitI m0 b0 K ((k : Int) + 1)) = _; unfold tFitI; rw [hF]; rfl)
        clear hF
        go_wp2
        go_roundw
        case rel => exact ⟨k + 1, by omega, by go_num, by rw [HT.out], by first | rfl | trivial⟩
        case measure => simp [Go.RowKit.intOf]; omega
      · cases hM : hasF m0 ((k : Int) + 1)
        · cases hB : hasF b0 ((k : Int) + 1)
          · have HT := hide (show tFits m0 b0 K (k + 1) = true by show (tFits m0 b0 K k && tFitI m0 b0 K ((k : Int) + 1)) = _; unfold tFitI; rw [hF, hM, hB]; rfl)
            have HM := hide hM
            have HB := hide hB
            clear hF hM hB
            go_wp2_with fail
            (with_reducible refine (Has_any m0 _ _ l0 (by omega) (by omega)).mono ?_)
            rintro e _ ⟨rfl, rfl⟩
            rw [HM.out]
            go_wp2_with fail
            (with_reducible refine (Has_any b0 _ _ l1 (by omega) (by omega)).mono ?_)
            rintro e _ ⟨rfl, rfl⟩
            rw [HB.out]
            go_wp2
            go_roundw
            case rel => exact ⟨k + 1, by omega, by go_num, by rw [HT.out], by first | rfl | trivial⟩
            case measure => simp [Go.RowKit.intOf]; omega
          · have HT := hide (show tFits m0 b0 K (k + 1) = false by show (tFits m0 b0 K k && tFitI m0 b0 K ((k : Int) + 1)) = _; unfold tFitI; rw [hF, hM, hB]; rfl)
            have HM := hide hM
            have HB := hide hB
            clear hF hM hB
            go_wp2_with fail
            (with_reducible refine (Has_any m0 _ _ l0 (by omega) (by omega)).mono ?_)
            rintro e _ ⟨rfl, rfl⟩
            rw [HM.out]
            go_wp2_with fail
            (with_reducible refine (Has_any b0 _ _ l1 (by omega) (by omega)).mono ?_)
            rintro e _ ⟨rfl, rfl⟩
            rw [HB.out]
            go_wp2_with fail
            (with_reducible refine (Has_any m0 _ _ l0 (by omega) (by omega)).mono ?_)
            rintro e _ ⟨rfl, rfl⟩
            rw [HM.out]
            go_wp2
            go_roundw
            case rel => exact ⟨k + 1, by omega, by go_num, by rw [HT.out], by first | rfl | trivial⟩
            case measure => simp [Go.RowKit.intOf]; omega
        · by_cases hi : (k : Int) + 1 ≤ K
          · cases hB : hasF b0 ((k : Int) + 1)
            · have HT := hide (show tFits m0 b0 K (k + 1) = true by show (tFits m0 b0 K k && tFitI m0 b0 K ((k : Int) + 1)) = _; unfold tFitI; rw [hF, hM, hB, decide_eq_true hi]; rfl)
              have HM := hide hM
              have HB := hide hB
              clear hF hM hB
              go_wp2_with fail
              (with_reducible refine (Has_any m0 _ _ l0 (by omega) (by omega)).mono ?_)
              rintro e _ ⟨rfl, rfl⟩
              rw [HM.out]
              go_wp2_with fail
              (with_reducible refine (Has_any b0 _ _ l1 (by omega) (by omega)).mono ?_)
              rintro e _ ⟨rfl, rfl⟩
              rw [HB.out]
              go_wp2
              go_roundw
              case rel => exact ⟨k + 1, by omega, by go_num, by rw [HT.out], by first | rfl | trivial⟩
              case measure => simp [Go.RowKit.intOf]; omega
            · have HT := hide (show tFits m0 b0 K (k + 1) = true by show (tFits m0 b0 K k && tFitI m0 b0 K ((k : Int) + 1)) = _; unfold tFitI; rw [hF, hM, hB, decide_eq_true hi]; rfl)
              have HM := hide hM
              have HB := hide hB
              clear hF hM hB
              go_wp2_with fail
              (with_reducible refine (Has_any m0 _ _ l0 (by omega) (by omega)).mono ?_)
              rintro e _ ⟨rfl, rfl⟩
              rw [HM.out]
              go_wp2_with fail
              (with_reducible refine (Has_any b0 _ _ l1 (by omega) (by omega)).mono ?_)
              rintro e _ ⟨rfl, rfl⟩
              rw [HB.out]
              go_wp2_with fail
              (with_reducible refine (Has_any m0 _ _ l0 (by omega) (by omega)).mono ?_)
              rintro e _ ⟨rfl, rfl⟩
              rw [HM.out]
              go_wp2
              go_roundw
              case rel => exact ⟨k + 1, by omega, by go_num, by rw [HT.out], by first | rfl | trivial⟩
              case measure => simp [Go.RowKit.intOf]; omega
          · have HT := hide (show tFits m0 b0 K (k + 1) = false by show (tFits m0 b0 K k && tFitI m0 b0 K ((k : Int) + 1)) = _; unfold tFitI; rw [hF, hM, decide_eq_false hi]; simp)
            have HM := hide hM
            clear hF hM
            go_wp2_with fail
            (with_reducible refine (Has_any m0 _ _ l0 (by omega) (by omega)).mono ?_)
            rintro e _ ⟨rfl, rfl⟩
            rw [HM.out]
            go_wp2
            go_roundw
            case rel => exact ⟨k + 1, by omega, by go_num, by rw [HT.out], by first | rfl | trivial⟩
            case measure => simp [Go.RowKit.intOf]; omega
    · have q2 : ¬ (k : Int) + 1 ≤ 64 := by omega
      have ek : k = 64 := by omega
      subst ek
      have HR := hide (show tFits m0 b0 K 64 = tRight m0 b0 K from (right_fits l0 l1 K).symm)
      rw [HR.out]
      cases hR : tRight m0 b0 K
      · have HH := hide hR
        clear hR
        go_wp2_with fail
        (with_reducible refine (Right_c m0 b0 K _ _ _ l0 l1 (by omega) (by omega) rfl rfl HH.out.symm _).mono ?_)
        rintro e w3 ⟨rfl, hb3⟩
        replace t0 := keepc hb3 t0
        replace t1 := keepc hb3 t1
        replace hB := bcall hB hb3
        have hs3 := hb3.size
        clear hb3
        go_wp2
        go_ret
        exact ⟨rfl, hB⟩
      · have HH := hide hR
        have H2 := hide (right_more l0 K hR)
        clear hR
        go_wp2_with fail
        (with_reducible refine (Right_c m0 b0 K _ _ _ l0 l1 (by omega) (by omega) rfl rfl HH.out.symm _).mono ?_)
        rintro e w3 ⟨rfl, hb3⟩
        replace t0 := keepc hb3 t0
        replace t1 := keepc hb3 t1
        replace hB := bcall hB hb3
        have hs3 := hb3.size
        clear hb3
        go_wp2_with fail
        (with_reducible refine (Right_c m0 b0 (K + 1) _ _ _ l0 l1 (by omega) (by omega) rfl rfl H2.out.symm _).mono ?_)
        rintro e w4 ⟨rfl, hb4⟩
        replace t0 := keepc hb4 t0
        replace t1 := keepc hb4 t1
        replace hB := bcall hB hb4
        have hs4 := hb4.size
        clear hb4
        go_wp2
        go_ret
        exact ⟨rfl, hB⟩

set_option maxRecDepth 100000 in
theorem lifted (os : Os) (started : os.Started) (H : Type) (enc : TypeId × Value → H) :
    ReturnsInHanded {} Tryd.checked os 8 .any (fun w args => (Rows.tintRightSpec.pre enc Tryd.prog Tryd.f8 Rows.tintRightRow.domain false w args ∧ laidMetH Tryd.prog Rows.tintRightRow.laid w) ∧ sizedMet enc Tryd.prog Tryd.f8 (OpenSpec.ofChange Rows.tintRightSpec) false w args) (Rows.tintRightSpec.post enc Tryd.prog Tryd.f8 false true false false) := by
  refine handed_and_shaped (C := Tryd.checked) (X := fun w _ => laidMetH Tryd.prog Rows.tintRightRow.laid w) (fun _ _ _ hh h => h.of_heap hh) ownL started (by kernel_rfl) Tryd.func8
    (ChangeSpec.witness_shaped (enc := enc) (C := Tryd.checked) (os := os) (X := fun w _ => laidMetH Tryd.prog Rows.tintRightRow.laid w) false (World.laidAll Tryd.prog os Rows.tintRightRow.laid) #[.agg #[.int .u64 0, .int .u64 0], .int .u8 0] 8 (World.laidAll_os _ _ _)
      (World.shaped_of_ZipB (by kernel_rfl) (by kernel_rfl)) (by kernel_rfl) (by kernel_rfl) (by kernel_rfl)
      (by rw [MakeChecks.laidMetH_plain _ _ _ (by kernel_rfl)]; exact laidMet_laidAll _ (by kernel_rfl) (by kernel_rfl))) ?_
  intro W base args ds gs before hval0 hW hsz0 hL hsh
  have hval : ∀ (j : Nat) t v, Tryd.f8.params[j]? = some t → args[j]? = some v → Value.okWide Tryd.prog W .any base t v := hval0
  have hW' := hW
  obtain ⟨p, q, hA0, hV, rfl, hfz, hnd⟩ := hW
  have hA : DataW.TrodAll enc Tryd.prog W 0 (fun _ => true) true Tryd.f8.params.toList args.toList ds p := hA0
  rw [Tryd.params8] at hA hval
  obtain ⟨v0, vs0, d0, ds0, p0, q0, hargs, rfl, rfl, h0, r0⟩ := trodAll_cons hA
  obtain ⟨v1, vs1, d1, ds1, p1, q1, rfl, rfl, rfl, h1, r1⟩ := trodAll_cons r0
  obtain ⟨rfl, rfl, rfl⟩ := trodAll_nil r1
  obtain rfl : args = #[v0, v1] := by cases args; simp_all
  obtain ⟨rfl, rfl⟩ := trodVars_none hV
  obtain ⟨m0, b0, rfl, hm0, hb0⟩ := open_tint (hval 0 25 v0 rfl rfl) h0
  obtain ⟨a1, rfl, rfl, rfl, w1⟩ := open_int Tryd.underlying5 (hval 1 5 v1 rfl rfl) h1
  have hx1 : 0 ≤ a1 ∧ a1 ≤ 255 := by simpa [Lit.wf, IntKind.min, IntKind.max, IntKind.signed, IntKind.bits] using w1
  have hE := envL_of_laid hL
  refine (walk m0 b0 hm0 hb0 a1 hx1 W hE).mono fun e W' ⟨he, hg⟩ => ?_
  subst he
  exact ⟨_, rfl, law_post laidOutL (by kernel_rfl) rfl Tryd.underlying4 rfl ⟨rfl, rfl, rfl⟩ hW' hg⟩
theorem row_holds : Rows.TintRightSaid :=
  OpenClaim.holds_of_wide 8 Tryd.f8 rfl rfl rfl rfl rfl rfl rfl ⟨rfl, rfl, rfl, rfl, rfl⟩ rfl rfl rfl rfl rfl (by kernel_rfl) Tryd.func8 (by kernel_rfl)
    (of_decide_eq_true (by kernel_rfl)) (by unfold Func.isWrapper; first | (rw [if_pos (by decide +kernel)]; kernel_rfl) | (rw [if_neg (by decide +kernel)]; exact ⟨rfl, rfl⟩))
    (fun os started H enc _ => lifted os started H enc)

/-- THE STATEMENT -/
theorem proved : Rows.TintRightCardSaid :=
  Claim7.holds_tied_plain_at .later [] Rows.tintRightCard.laidKinds true Rows.tintRightCard.stood.harness Rows.tintRightCard.stood.looks
    row_holds (fun _ h => by cases h) (by kernel_rfl) (fun _ h => by cases h) tintRight_row_tie rfl ⟨rfl, rfl⟩ (by kernel_rfl) rfl
    (fun f fn hf hfn => by
      obtain rfl : f = 8 := Option.some.inj ((show Tryd.prog.funcNamed Rows.tintRightRow.func = some 8 by kernel_rfl).symm.trans hf) |>.symm
      obtain rfl : fn = Tryd.f8 := (Option.some.inj (Tryd.func8.symm.trans hfn)).symm
      exact ⟨by kernel_rfl, fun j t ht => by
        rw [Tryd.params8] at ht
        have hm : t ∈ [25, 5] := by simpa using Array.mem_of_getElem? ht
        have hall : ([25, 5].all fun u => !Tryd.prog.wantsStandIn u) = true := by kernel_rfl
        exact (show Tryd.prog.wantsStandIn t = false by simpa using List.all_eq_true.1 hall t hm)⟩)
    (by kernel_rfl)
end Go.Proofs.YtpffknlbffnafaaDoor.lawTintRight
