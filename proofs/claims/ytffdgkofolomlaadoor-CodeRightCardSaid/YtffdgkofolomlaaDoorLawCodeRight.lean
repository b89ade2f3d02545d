/- CodeRight: what is parsed is right, and printed it is the text; with an error there is nothing. No condition. -/
import Derived.Test.YtffdgkofolomlaaDoorCodeOpen
namespace Go.Proofs.YtffdgkofolomlaaDoor.lawCodeRight
open Go.RowKit Go.WideShapes Go.ChangeShapes Go.ChangeAt Go.Deep Go.Proofs Go.Proofs.YtffdgkofolomlaaDoor

set_option maxRecDepth 100000 in
set_option maxHeartbeats 8000000 in
theorem walk (s : ByteArray) (hs : s.size ≤ 9223372036854775807) (w : World) : Calls Tryd.prog 5 #[.string s] w fun e w' => e = .returned (.bool true) ∧ Below w.heap.size w w' := by
  obtain ⟨t, ht⟩ : ∃ t, s.data.toList = t := ⟨_, rfl⟩
  obtain ⟨⟨L, e⟩, hp⟩ : ∃ R, cParse t = R := ⟨_, rfl⟩
  obtain ⟨N, hN⟩ : ∃ N, L.length = N := ⟨_, rfl⟩
  have HT := hide ht
  have HP := hide hp
  have HN := hide hN
  have hB : Below w.heap.size w w := Below.refl _ _
  by_cases he : e = 0
  · subst he
    obtain ⟨h1, h2, h3⟩ := print_parse hp
    have F1 := hide (show cFits L 4 4 = true by unfold cFits; rw [Bool.and_eq_true, List.all_eq_true]; exact ⟨h2, decide_eq_true h3⟩)
    have F2 := hide h1
    have F3 := hide (show N ≤ 64 by omega)
    have F4 := hide (show (⟨t.toArray⟩ : ByteArray) = s by apply ByteArray.ext; rw [← ht])
    clear ht hp hN h1 h2 h3
    go_enter Tryd.func5, Tryd.ntmps5
    go_wp2_with fail
    (with_reducible refine (examples_any _).mono ?_)
    rintro e w1 ⟨rfl, hb1⟩
    replace hB := bcall hB hb1
    have hs1 := hb1.size
    clear hb1
    go_wp2_with fail
    (with_reducible refine (Parse_c t L 0 N HP.out HN.out s HT.out hs _).mono ?_)
    rintro e w2 ⟨A1, c1, rfl, ⟨p1, q1⟩, HL, hb2⟩
    replace hB := bcall hB hb2
    have hs2 := hb2.size
    clear hb2
    have HL := hide HL
    go_wp2_with fail
    (with_reducible refine (Fits_c L N 4 4 true _ _ HN.out F1.out _ HL.out).mono ?_)
    rintro e w3 ⟨rfl, hb3⟩
    replace HL := hide (HL.out.below hb3)
    replace hB := bcall hB hb3
    have hs3 := hb3.size
    clear hb3
    go_wp2_with fail
    (with_reducible refine (Print_c L t N _ _ HN.out F2.out _ HL.out (by have := F3.out; omega)).mono ?_)
    rintro e w4 ⟨rfl, hb4⟩
    replace HL := hide (HL.out.below hb4)
    replace hB := bcall hB hb4
    have hs4 := hb4.size
    clear hb4
    rw [F4.out]
    go_wp2
    go_ret
    exact ⟨rfl, hB⟩
  · obtain ⟨h1, h2⟩ := parse_err hp he
    subst h1
    have q1 : (e != 0) = true := by rw [bne_iff_ne]; exact he
    have q2 : (e == 0) = false := by rw [beq_eq_false_iff_ne]; exact he
    rcases h2 with rfl | rfl
    · obtain rfl : N = 0 := by simpa using hN.symm
      clear ht hp hN he q1 q2
      go_enter Tryd.func5, Tryd.ntmps5
      go_wp2_with fail
      (with_reducible refine (examples_any _).mono ?_)
      rintro e w1 ⟨rfl, hb1⟩
      replace hB := bcall hB hb1
      have hs1 := hb1.size
      clear hb1
      go_wp2_with fail
      (with_reducible refine (Parse_c t [] 2 0 HP.out HN.out s HT.out hs _).mono ?_)
      rintro e w2 ⟨A1, c1, rfl, ⟨p1, q1⟩, -, hb2⟩
      replace hB := bcall hB hb2
      have hs2 := hb2.size
      clear hb2
      go_wp2
      go_ret
      exact ⟨rfl, hB⟩
    · obtain rfl : N = 0 := by simpa using hN.symm
      clear ht hp hN he q1 q2
      go_enter Tryd.func5, Tryd.ntmps5
      go_wp2_with fail
      (with_reducible refine (examples_any _).mono ?_)
      rintro e w1 ⟨rfl, hb1⟩
      replace hB := bcall hB hb1
      have hs1 := hb1.size
      clear hb1
      go_wp2_with fail
      (with_reducible refine (Parse_c t [] 3 0 HP.out HN.out s HT.out hs _).mono ?_)
      rintro e w2 ⟨A1, c1, rfl, ⟨p1, q1⟩, -, hb2⟩
      replace hB := bcall hB hb2
      have hs2 := hb2.size
      clear hb2
      go_wp2
      go_ret
      exact ⟨rfl, hB⟩

set_option maxRecDepth 100000 in
theorem lifted (os : Os) (started : os.Started) (H : Type) (enc : TypeId × Value → H) :
    ReturnsInHanded {} Tryd.checked os 5 .any (fun w args => (Rows.codeRightSpec.pre enc Tryd.prog Tryd.f5 Rows.codeRightRow.domain false w args ∧ laidMetH Tryd.prog Rows.codeRightRow.laid w) ∧ sizedMet enc Tryd.prog Tryd.f5 (OpenSpec.ofChange Rows.codeRightSpec) false w args) (Rows.codeRightSpec.post enc Tryd.prog Tryd.f5 false true false false) := by
  refine handed_and_shaped (C := Tryd.checked) (X := fun w _ => laidMetH Tryd.prog Rows.codeRightRow.laid w) (fun _ _ _ hh h => h.of_heap hh) ownL started (by kernel_rfl) Tryd.func5
    (ChangeSpec.witness_shaped (enc := enc) (C := Tryd.checked) (os := os) (X := fun w _ => laidMetH Tryd.prog Rows.codeRightRow.laid w) false (World.laidAll Tryd.prog os Rows.codeRightRow.laid) #[.string .empty] 8 (World.laidAll_os _ _ _)
      (World.shaped_of_ZipB (by kernel_rfl) (by kernel_rfl)) (by kernel_rfl) (by kernel_rfl) (by kernel_rfl)
      (by rw [MakeChecks.laidMetH_plain _ _ _ (by kernel_rfl)]; exact laidMet_laidAll _ (by kernel_rfl) (by kernel_rfl))) ?_
  intro W base args ds gs before hval0 hW hsz0 hL hsh
  have hval : ∀ (j : Nat) t v, Tryd.f5.params[j]? = some t → args[j]? = some v → Value.okWide Tryd.prog W .any base t v := hval0
  have hW' := hW
  obtain ⟨p, q, hA0, hV, rfl, hfz, hnd⟩ := hW
  have hA : DataW.TrodAll enc Tryd.prog W 0 (fun _ => true) true Tryd.f5.params.toList args.toList ds p := hA0
  rw [Tryd.params5] at hA hval
  obtain ⟨v0, vs0, d0, ds0, p0, q0, hargs, rfl, rfl, h0, r0⟩ := trodAll_cons hA
  obtain ⟨rfl, rfl, rfl⟩ := trodAll_nil r0
  obtain rfl : args = #[v0] := by cases args; simp_all
  obtain ⟨rfl, rfl⟩ := trodVars_none hV
  obtain ⟨s0, rfl, rfl, rfl, hs0⟩ := Go.ChangeMaps.open_string Tryd.underlying9 (hval 0 9 v0 rfl rfl) h0
  have hsz : (DataW.weightsEach Tryd.prog [9] ([.lit (.string s0.data.toList)] : List (DataW H))).all (· ≤ reachBytes) = true := hsz0
  have e0 : s0.size ≤ 140737488351232 := by have h1 : s0.data.toList.length = s0.size := (by rw [Array.length_toList]; rfl); have h2 := sized_string hsz (j := 0) rfl rfl; simp only [reachBytes] at h2; omega
  have hE := trivial
  refine (walk s0 (by omega) W).mono fun e W' ⟨he, hg⟩ => ?_
  subst he
  exact ⟨_, rfl, law_post laidOutL (by kernel_rfl) rfl Tryd.underlying4 rfl ⟨rfl, rfl, rfl⟩ hW' hg⟩
theorem row_holds : Rows.CodeRightSaid :=
  OpenClaim.holds_of_wide 5 Tryd.f5 rfl rfl rfl rfl rfl rfl rfl ⟨rfl, rfl, rfl, rfl, rfl⟩ rfl rfl rfl rfl rfl (by kernel_rfl) Tryd.func5 (by kernel_rfl)
    (of_decide_eq_true (by kernel_rfl)) (by unfold Func.isWrapper; first | (rw [if_pos (by decide +kernel)]; kernel_rfl) | (rw [if_neg (by decide +kernel)]; exact ⟨rfl, rfl⟩))
    (fun os started H enc _ => lifted os started H enc)

/-- THE STATEMENT -/
theorem proved : Rows.CodeRightCardSaid :=
  Claim7.holds_tied_plain_at .later [] Rows.codeRightCard.laidKinds true Rows.codeRightCard.stood.harness Rows.codeRightCard.stood.looks
    row_holds (fun _ h => by cases h) (by kernel_rfl) (fun _ h => by cases h) codeRight_row_tie rfl ⟨rfl, rfl⟩ (by kernel_rfl) rfl
    (fun f fn hf hfn => by
      obtain rfl : f = 5 := Option.some.inj ((show Tryd.prog.funcNamed Rows.codeRightRow.func = some 5 by kernel_rfl).symm.trans hf) |>.symm
      obtain rfl : fn = Tryd.f5 := (Option.some.inj (Tryd.func5.symm.trans hfn)).symm
      exact ⟨by kernel_rfl, fun j t ht => by
        rw [Tryd.params5] at ht
        have hm : t ∈ [9] := by simpa using Array.mem_of_getElem? ht
        have hall : ([9].all fun u => !Tryd.prog.wantsStandIn u) = true := by kernel_rfl
        exact (show Tryd.prog.wantsStandIn t = false by simpa using List.all_eq_true.1 hall t hm)⟩)
    (by kernel_rfl)
end Go.Proofs.YtffdgkofolomlaaDoor.lawCodeRight
