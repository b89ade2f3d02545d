/- SetLists: for any set and any list: what a set lists rises, makes it again, and is as many as it counts; what is no object is not taken. No condition beside the listed tables, which the card ties to the text. -/
import Derived.Test.YtnodloeiabbliaaDoorSetTied
import Derived.Test.YtnodloeiabbliaaDoorSetMore
namespace Go.Proofs.YtnodloeiabbliaaDoor.lawLists
open Go.RowKit Go.WideShapes Go.ChangeShapes Go.ChangeAt Go.Shelf Go.Proofs Go.Proofs.YtnodloeiabbliaaDoor

set_option maxRecDepth 100000 in
set_option maxHeartbeats 8000000 in
theorem walk (s : Nat) (v : Value) (l : List Int) (w : World) (hs : s < 18446744073709551616) (hl : Ints w v l) (hr : ∀ o ∈ l, -9223372036854775808 ≤ o ∧ o ≤ 9223372036854775807) (hE : Env w) :
    Calls Tryd.prog 5 #[.int .u64 s, v] w fun e w' => e = .returned (.bool true) ∧ Below w.heap.size w w' := by
  have hl' := hl
  obtain ⟨A, c, rfl, h1, h2, -⟩ := hl'
  unfold maxLen at h2
  have HL := hide hl
  have HR := hide hr
  clear hl hr
  have hx := objs_rise s
  have hrng : ∀ o ∈ objs s, hasF s o = true ∧ 1 ≤ o ∧ o ≤ 64 := fun o ho => ⟨mem_objs.1 ho, objs_rng ho⟩
  have hof := of_objs hs
  have hol := objs_len s
  obtain ⟨X, hX⟩ : ∃ X, objs s = X := ⟨_, rfl⟩
  rw [hX] at hx hrng hof hol
  have HX := hide hX
  have HRI := hide hx
  have HRG := hide hrng
  have HOF := hide hof
  have HC := hide (show cntF s = X.length by rw [← hX]; rfl)
  clear hX hx hrng hof
  go_enter Tryd.func5, Tryd.ntmps5
  go_wp2_with fail
  refine (examples_any _ hE).mono ?_
  rintro e w1 ⟨rfl, hb⟩
  have hE := hide (hE.below hb)
  go_wp2_with fail
  (with_reducible refine (List_any s hs _ hE.out).mono ?_)
  rintro e w2 ⟨vx, rfl, hox, hb2⟩
  have hb := bcall hb hb2
  rw [HX.out] at hox
  have hI := hide (show Ints w2 vx X from Sl.of_own ic_len hox)
  have HL := hide (HL.out.below hb)
  obtain ⟨Ax, cx, rfl, hcx, hcxm⟩ := own_form hox
  clear hox
  go_wp2
  go_loopw [7] (fun i wr => ∃ k : Nat, k ≤ X.length ∧ i = .int .i64 k ∧ Below w2.heap.size w2 wr) (fun i _ => X.length - (Go.RowKit.intOf i).toNat)
  case atStart => exact ⟨0, Nat.zero_le _, rfl, Below.refl _ _⟩
  case round =>
    obtain ⟨k, hk, rfl, hbw⟩ := hrel
    have hIr := hide (hI.out.below hbw)
    by_cases hlt : k < X.length
    · obtain ⟨b, off, rfl, hc⟩ := ints_at hIr.out hlt
      obtain ⟨hh, hx1, hx2⟩ := HRG.out _ (List.getElem_mem hlt)
      have HH : Hid (∀ W, Calls Tryd.prog 12 #[.int .u64 s, .int .i64 X[k]] W fun e w' => e = .returned (.bool true) ∧ w' = W) := hide (fun W => by have := Has_any s X[k] W hs (by omega) (by omega); rwa [hh] at this)
      clear hh
      have q1 : decide (X[k] < 1) = false := by simp; omega
      have q2 : decide (X[k] > 64) = false := by simp; omega
      by_cases hk0 : k = 0
      · subst hk0
        rw [Nat.add_zero] at hc
        generalize X[0] = x at *
        go_wp2
        go_quiet ((go_at_call 12; exact Calls.quiet_of_same (HH.out _)))
        go_wp2
        go_roundw
        case rel => exact ⟨1, by omega, by go_num, bdrewN hbw _⟩
        case measure => simp [Go.RowKit.intOf]; omega
      · obtain ⟨j, rfl⟩ : ∃ j, k = j + 1 := ⟨k - 1, by omega⟩
        obtain ⟨b', off', e0, hc'⟩ := ints_at hIr.out (show j < X.length by omega)
        injection e0 with e0
        injection e0 with e1 e2
        subst e1; subst e2
        have hrise : X[j] < X[j + 1] := List.pairwise_iff_getElem.1 HRI.out j (j + 1) (by omega) hlt (by omega)
        have q3 : decide (X[j] ≥ X[j + 1]) = false := by simp; omega
        clear hrise
        generalize X[j + 1] = x at *
        generalize X[j] = y at *
        go_wp2
        go_quiet ((go_at_call 12; exact Calls.quiet_of_same (HH.out _)))
        go_wp2
        go_roundw
        case rel => exact ⟨j + 2, by omega, by go_num, bdrewN hbw _⟩
        case measure => simp [Go.RowKit.intOf]; omega
    · have hbr := bcall hb hbw
      have HLr := hide (HL.out.below hbw)
      have lT := ofF_lt l
      have cT := cnt_of l
      obtain ⟨T, hT⟩ : ∃ T, ofF l = T := ⟨_, rfl⟩
      have hin : ∀ o ∈ l, hasF T o = decide (1 ≤ o ∧ o ≤ 64) := fun o ho => by rw [← hT, has_of, decide_eq_true ho, Bool.and_true]
      rw [hT] at lT cT
      have HT := hide hT
      have HIN := hide hin
      clear hT hin
      go_wp2_with fail
      (with_reducible refine (Of_any _ l _ HLr.out HR.out).mono ?_)
      rintro e w3 ⟨rfl, rfl⟩
      rw [HT.out]
      go_wp2
      go_loopw [9] (fun i wq => ∃ m : Nat, m ≤ l.length ∧ i = .int .i64 m ∧ Below w3.heap.size w3 wq) (fun i _ => l.length - (Go.RowKit.intOf i).toNat)
      case atStart => exact ⟨0, Nat.zero_le _, rfl, Below.refl _ _⟩
      case round =>
        obtain ⟨m, hm, rfl, hbq⟩ := hrel
        by_cases hlt2 : m < l.length
        · obtain ⟨b, off, rfl, hc⟩ := ints_at (HLr.out.below hbq) hlt2
          have hor := HR.out _ (List.getElem_mem hlt2)
          have hho := HIN.out _ (List.getElem_mem hlt2)
          have HH : Hid (∀ W, Calls Tryd.prog 12 #[.int .u64 T, .int .i64 l[m]] W fun e w' => e = .returned (.bool (decide (1 ≤ l[m] ∧ l[m] ≤ 64))) ∧ w' = W) := hide (fun W => by have := Has_any T l[m] W lT hor.1 hor.2; rwa [hho] at this)
          clear hho
          generalize l[m] = o at *
          rcases (show o < 1 ∨ (1 ≤ o ∧ o ≤ 64) ∨ (1 ≤ o ∧ 64 < o) by omega) with ho | ⟨ho1, ho2⟩ | ⟨ho1, ho2⟩
          · have q1 : decide (o ≥ 1) = false := by simp; omega
            rw [show decide (1 ≤ o ∧ o ≤ 64) = false by simp; omega] at HH
            go_wp2
            go_quiet ((go_at_call 12; exact Calls.quiet_of_same (HH.out _)))
            go_wp2
            go_roundw
            case rel => exact ⟨m + 1, by omega, by go_num, bdrewN hbq _⟩
            case measure => simp [Go.RowKit.intOf]; omega
          · have q1 : decide (o ≥ 1) = true := by simp; omega
            have q2 : decide (o ≤ 64) = true := by simp; omega
            rw [show decide (1 ≤ o ∧ o ≤ 64) = true by simp; omega] at HH
            go_wp2
            go_quiet ((go_at_call 12; exact Calls.quiet_of_same (HH.out _)))
            go_wp2
            go_roundw
            case rel => exact ⟨m + 1, by omega, by go_num, bdrewN hbq _⟩
            case measure => simp [Go.RowKit.intOf]; omega
          · have q1 : decide (o ≥ 1) = true := by simp; omega
            have q2 : decide (o ≤ 64) = false := by simp; omega
            rw [show decide (1 ≤ o ∧ o ≤ 64) = false by simp; omega] at HH
            go_wp2
            go_quiet ((go_at_call 12; exact Calls.quiet_of_same (HH.out _)))
            go_wp2
            go_roundw
            case rel => exact ⟨m + 1, by omega, by go_num, bdrewN hbq _⟩
            case measure => simp [Go.RowKit.intOf]; omega
        · have HIq := hide (hIr.out.below hbq)
          have hXr : ∀ o ∈ X, -9223372036854775808 ≤ o ∧ o ≤ 9223372036854775807 := fun o ho => by have := HRG.out o ho; omega
          have HXR := hide hXr
          clear hXr
          go_wp2_with fail
          (with_reducible refine (Of_any _ X _ HIq.out HXR.out).mono ?_)
          rintro e w4 ⟨rfl, rfl⟩
          rw [HOF.out]
          go_wp2_with fail
          (with_reducible refine (Count_any s _ hs).mono ?_)
          rintro e w5 ⟨rfl, rfl⟩
          rw [HC.out]
          go_wp2_with fail
          (with_reducible refine (Count_any T _ lT).mono ?_)
          rintro e w6 ⟨rfl, rfl⟩
          go_wp2
          go_ret
          exact ⟨rfl, bcall hbr hbq⟩

set_option maxRecDepth 100000 in
theorem lifted (os : Os) (started : os.Started) (H : Type) (enc : TypeId × Value → H) :
    ReturnsInHanded {} Tryd.checked os 5 .any (fun w args => (Rows.setListsSpec.pre enc Tryd.prog Tryd.f5 Rows.setListsRow.domain false w args ∧ laidMetH Tryd.prog Rows.setListsRow.laid w) ∧ sizedMet enc Tryd.prog Tryd.f5 (OpenSpec.ofChange Rows.setListsSpec) false w args) (Rows.setListsSpec.post enc Tryd.prog Tryd.f5 false true false false) := by
  refine handed_and_shaped (C := Tryd.checked) (X := fun w _ => laidMetH Tryd.prog Rows.setListsRow.laid w) (fun _ _ _ hh h => h.of_heap hh) ownL started (by kernel_rfl) Tryd.func5
    (ChangeSpec.witness_shaped (enc := enc) (C := Tryd.checked) (os := os) (X := fun w _ => laidMetH Tryd.prog Rows.setListsRow.laid w) false (World.laidAll Tryd.prog os Rows.setListsRow.laid) #[.int .u64 0, .slice none 0 0] 8 (World.laidAll_os _ _ _)
      (World.shaped_of_ZipB (by kernel_rfl) (by kernel_rfl)) (by kernel_rfl) (by kernel_rfl) (by kernel_rfl)
      (by rw [MakeChecks.laidMetH_plain _ _ _ (by kernel_rfl)]; exact laidMet_laidAll _ (by kernel_rfl) (by kernel_rfl))) ?_
  intro W base args ds gs before hval0 hW hsz0 hL hsh
  have hval : ∀ (j : Nat) t v, Tryd.f5.params[j]? = some t → args[j]? = some v → Value.okWide Tryd.prog W .any base t v := hval0
  have hW' := hW
  obtain ⟨p, q, hA0, hV, rfl, hfz, hnd⟩ := hW
  have hA : DataW.TrodAll enc Tryd.prog W 0 (fun _ => true) true Tryd.f5.params.toList args.toList ds p := hA0
  rw [Tryd.params5] at hA hval
  obtain ⟨v0, vs0, d0, ds0, p0, q0, hargs, rfl, rfl, h0, r0⟩ := trodAll_cons hA
  obtain ⟨v1, vs1, d1, ds1, p1, q1, rfl, rfl, rfl, h1, r1⟩ := trodAll_cons r0
  obtain ⟨rfl, rfl, rfl⟩ := trodAll_nil r1
  obtain rfl : args = #[v0, v1] := by cases args; simp_all
  obtain ⟨rfl, rfl⟩ := trodVars_none hV
  obtain ⟨a0, rfl, rfl, rfl, w0⟩ := open_int Tryd.underlying23 (hval 0 23 v0 rfl rfl) h0
  have hx0 : 0 ≤ a0 ∧ a0 ≤ 18446744073709551615 := by simpa [Lit.wf, IntKind.min, IntKind.max, IntKind.signed, IntKind.bits] using w0
  obtain ⟨n0, rfl⟩ : ∃ n : Nat, a0 = n := ⟨a0.toNat, by omega⟩
  obtain ⟨l1, hl1, hq1, hd1⟩ := open_ints (hval 1 24 v1 rfl rfl) h1
  have hsz : (DataW.weightsEach Tryd.prog [23, 24] ([.lit (.int .u64 n0), d1] : List (DataW H))).all (· ≤ reachBytes) = true := hsz0
  have e1 : l1.length * 8 ≤ 140737488351232 := slice_reach hsz 1 rfl rfl Tryd.underlying24 (by kernel_rfl) hd1
  have hE := env_of_laid hL hsh
  refine (walk n0 v1 l1 W (by omega) hl1 hq1 hE).mono fun e W' ⟨he, hg⟩ => ?_
  subst he
  exact ⟨_, rfl, law_post laidOutL (by kernel_rfl) rfl Tryd.underlying4 rfl ⟨rfl, rfl, rfl⟩ hW' hg⟩
theorem row_holds : Rows.SetListsSaid :=
  OpenClaim.holds_of_wide 5 Tryd.f5 rfl rfl rfl rfl rfl rfl rfl ⟨rfl, rfl, rfl, rfl, rfl⟩ rfl rfl rfl rfl rfl (by kernel_rfl) Tryd.func5 (by kernel_rfl)
    (of_decide_eq_true (by kernel_rfl)) (by unfold Func.isWrapper; first | (rw [if_pos (by decide +kernel)]; kernel_rfl) | (rw [if_neg (by decide +kernel)]; exact ⟨rfl, rfl⟩))
    (fun os started H enc _ => lifted os started H enc)

/-- THE STATEMENT -/
theorem proved : Rows.SetListsCardSaid :=
  Claim7.holds_tied_plain_at .later [] Rows.setListsCard.laidKinds true Rows.setListsCard.stood.harness Rows.setListsCard.stood.looks
    row_holds (fun _ h => by cases h) (by kernel_rfl) (fun _ h => by cases h) setLists_row_tie rfl ⟨rfl, rfl⟩ (by kernel_rfl) rfl
    (fun f fn hf hfn => by
      obtain rfl : f = 5 := Option.some.inj ((show Tryd.prog.funcNamed Rows.setListsRow.func = some 5 by kernel_rfl).symm.trans hf) |>.symm
      obtain rfl : fn = Tryd.f5 := (Option.some.inj (Tryd.func5.symm.trans hfn)).symm
      exact ⟨by kernel_rfl, fun j t ht => by
        rw [Tryd.params5] at ht
        have hm : t ∈ [23, 24] := by simpa using Array.mem_of_getElem? ht
        have hall : ([23, 24].all fun u => !Tryd.prog.wantsStandIn u) = true := by kernel_rfl
        exact (show Tryd.prog.wantsStandIn t = false by simpa using List.all_eq_true.1 hall t hm)⟩)
    (by kernel_rfl)
end Go.Proofs.YtnodloeiabbliaaDoor.lawLists
