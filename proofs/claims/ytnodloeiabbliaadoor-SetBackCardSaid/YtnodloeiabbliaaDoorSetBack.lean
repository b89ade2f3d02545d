/- SetBack: for any set and any text: what is shown of a set is parsed as it; a text that is parsed is its set text. No condition beside the listed tables, which the card ties to the text. -/
import Derived.Test.YtnodloeiabbliaaDoorSetTied
namespace Go.Proofs.YtnodloeiabbliaaDoor.lawBack
open Go.RowKit Go.WideShapes Go.ChangeShapes Go.ChangeAt Go.Shelf Go.Proofs Go.Proofs.YtnodloeiabbliaaDoor

set_option maxRecDepth 100000 in
set_option maxHeartbeats 8000000 in
theorem walk (s : Nat) (t : ByteArray) (w : World) (hs : s < 18446744073709551616) (ht : t.size ≤ 9223372036854775807) (hE : Env w) :
    Calls Tryd.prog 7 #[.int .u64 s, .string t] w fun e w' => e = .returned (.bool true) ∧ Below w.heap.size w w' := by
  obtain ⟨T, hT⟩ : ∃ T : ByteArray, (⟨(textF s).toArray⟩ : ByteArray) = T := ⟨_, rfl⟩
  have p1 := hide (show parseF T.data.toList = (s, 0) by rw [← hT]; exact parse_text hs)
  have hTs : T.size ≤ 182 := by rw [← hT, ba_size]; exact text_len s
  have HT := hide hT
  have ly := parse_lt t.data.toList
  have hcs := parse_cases t.data.toList
  obtain ⟨y, f, hp⟩ : ∃ y f, parseF t.data.toList = (y, f) := ⟨_, _, rfl⟩
  rw [hp] at ly hcs
  dsimp only at ly hcs
  have HP := hide hp
  have HC := hide hcs
  have HL : y < 18446744073709551616 := ly
  clear hp hcs ly hT
  go_enter Tryd.func7, Tryd.ntmps7
  go_wp2_with fail
  refine (examples_any _ hE).mono ?_
  rintro e w1 ⟨rfl, hb⟩
  have hE := hide (hE.below hb)
  go_wp2_with fail
  (with_reducible refine (Text_any s hs _ hE.out).mono ?_)
  rintro e w2 ⟨rfl, hb2⟩
  have hb := bcall hb hb2
  have hE := hide (hE.out.below hb2)
  rw [HT.out]
  go_wp2_with fail
  (with_reducible refine (Parse_any T _ (by omega) hE.out).mono ?_)
  rintro e w3 ⟨rfl, hb3⟩
  rw [p1.out]
  have hb := bcall hb hb3
  have hE := hide (hE.out.below hb3)
  go_wp2_with fail
  (with_reducible refine (Parse_any t _ ht hE.out).mono ?_)
  rintro e w4 ⟨rfl, hb4⟩
  rw [HP.out]
  have hb := bcall hb hb4
  have hE := hide (hE.out.below hb4)
  rcases HC.out with ⟨rfl, hyt⟩ | ⟨rfl, rfl⟩
  · have hte := hide (show (⟨(textF y).toArray⟩ : ByteArray) = t by rw [hyt])
    clear hyt HC
    go_wp2_with fail
    (with_reducible refine (Text_any y HL _ hE.out).mono ?_)
    rintro e w5 ⟨rfl, hb5⟩
    rw [hte.out]
    have hb := bcall hb hb5
    go_wp2
    go_ret
    exact ⟨rfl, hb⟩
  · clear HC
    go_wp2
    go_ret
    exact ⟨rfl, hb⟩

set_option maxRecDepth 100000 in
theorem lifted (os : Os) (started : os.Started) (H : Type) (enc : TypeId × Value → H) :
    ReturnsInHanded {} Tryd.checked os 7 .any (fun w args => (Rows.setBackSpec.pre enc Tryd.prog Tryd.f7 Rows.setBackRow.domain false w args ∧ laidMetH Tryd.prog Rows.setBackRow.laid w) ∧ sizedMet enc Tryd.prog Tryd.f7 (OpenSpec.ofChange Rows.setBackSpec) false w args) (Rows.setBackSpec.post enc Tryd.prog Tryd.f7 false true false false) := by
  refine handed_and_shaped (C := Tryd.checked) (X := fun w _ => laidMetH Tryd.prog Rows.setBackRow.laid w) (fun _ _ _ hh h => h.of_heap hh) ownL started (by kernel_rfl) Tryd.func7
    (ChangeSpec.witness_shaped (enc := enc) (C := Tryd.checked) (os := os) (X := fun w _ => laidMetH Tryd.prog Rows.setBackRow.laid w) false (World.laidAll Tryd.prog os Rows.setBackRow.laid) #[.int .u64 0, .string .empty] 8 (World.laidAll_os _ _ _)
      (World.shaped_of_ZipB (by kernel_rfl) (by kernel_rfl)) (by kernel_rfl) (by kernel_rfl) (by kernel_rfl)
      (by rw [MakeChecks.laidMetH_plain _ _ _ (by kernel_rfl)]; exact laidMet_laidAll _ (by kernel_rfl) (by kernel_rfl))) ?_
  intro W base args ds gs before hval0 hW hsz0 hL hsh
  have hval : ∀ (j : Nat) t v, Tryd.f7.params[j]? = some t → args[j]? = some v → Value.okWide Tryd.prog W .any base t v := hval0
  have hW' := hW
  obtain ⟨p, q, hA0, hV, rfl, hfz, hnd⟩ := hW
  have hA : DataW.TrodAll enc Tryd.prog W 0 (fun _ => true) true Tryd.f7.params.toList args.toList ds p := hA0
  rw [Tryd.params7] at hA hval
  obtain ⟨v0, vs0, d0, ds0, p0, q0, hargs, rfl, rfl, h0, r0⟩ := trodAll_cons hA
  obtain ⟨v1, vs1, d1, ds1, p1, q1, rfl, rfl, rfl, h1, r1⟩ := trodAll_cons r0
  obtain ⟨rfl, rfl, rfl⟩ := trodAll_nil r1
  obtain rfl : args = #[v0, v1] := by cases args; simp_all
  obtain ⟨rfl, rfl⟩ := trodVars_none hV
  obtain ⟨a0, rfl, rfl, rfl, w0⟩ := open_int Tryd.underlying23 (hval 0 23 v0 rfl rfl) h0
  have hx0 : 0 ≤ a0 ∧ a0 ≤ 18446744073709551615 := by simpa [Lit.wf, IntKind.min, IntKind.max, IntKind.signed, IntKind.bits] using w0
  obtain ⟨n0, rfl⟩ : ∃ n : Nat, a0 = n := ⟨a0.toNat, by omega⟩
  obtain ⟨s1, rfl, rfl, rfl, hs1⟩ := Go.ChangeMaps.open_string Tryd.underlying9 (hval 1 9 v1 rfl rfl) h1
  have hsz : (DataW.weightsEach Tryd.prog [23, 9] ([.lit (.int .u64 n0), .lit (.string s1.data.toList)] : List (DataW H))).all (· ≤ reachBytes) = true := hsz0
  have e1 : s1.size ≤ 140737488351232 := by have h1 : s1.data.toList.length = s1.size := (by rw [Array.length_toList]; rfl); have h2 := sized_string hsz (j := 1) rfl rfl; simp only [reachBytes] at h2; omega
  have hE := env_of_laid hL hsh
  refine (walk n0 s1 W (by omega) (by omega) hE).mono fun e W' ⟨he, hg⟩ => ?_
  subst he
  exact ⟨_, rfl, law_post laidOutL (by kernel_rfl) rfl Tryd.underlying4 rfl ⟨rfl, rfl, rfl⟩ hW' hg⟩
theorem row_holds : Rows.SetBackSaid :=
  OpenClaim.holds_of_wide 7 Tryd.f7 rfl rfl rfl rfl rfl rfl rfl ⟨rfl, rfl, rfl, rfl, rfl⟩ rfl rfl rfl rfl rfl (by kernel_rfl) Tryd.func7 (by kernel_rfl)
    (of_decide_eq_true (by kernel_rfl)) (by unfold Func.isWrapper; first | (rw [if_pos (by decide +kernel)]; kernel_rfl) | (rw [if_neg (by decide +kernel)]; exact ⟨rfl, rfl⟩))
    (fun os started H enc _ => lifted os started H enc)

/-- THE STATEMENT -/
theorem proved : Rows.SetBackCardSaid :=
  Claim7.holds_tied_plain_at .later [] Rows.setBackCard.laidKinds true Rows.setBackCard.stood.harness Rows.setBackCard.stood.looks
    row_holds (fun _ h => by cases h) (by kernel_rfl) (fun _ h => by cases h) setBack_row_tie rfl ⟨rfl, rfl⟩ (by kernel_rfl) rfl
    (fun f fn hf hfn => by
      obtain rfl : f = 7 := Option.some.inj ((show Tryd.prog.funcNamed Rows.setBackRow.func = some 7 by kernel_rfl).symm.trans hf) |>.symm
      obtain rfl : fn = Tryd.f7 := (Option.some.inj (Tryd.func7.symm.trans hfn)).symm
      exact ⟨by kernel_rfl, fun j t ht => by
        rw [Tryd.params7] at ht
        have hm : t ∈ [23, 9] := by simpa using Array.mem_of_getElem? ht
        have hall : ([23, 9].all fun u => !Tryd.prog.wantsStandIn u) = true := by kernel_rfl
        exact (show Tryd.prog.wantsStandIn t = false by simpa using List.all_eq_true.1 hall t hm)⟩)
    (by kernel_rfl)
end Go.Proofs.YtnodloeiabbliaaDoor.lawBack
