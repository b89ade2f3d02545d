/- SetTells: what the document says of any two sets, a number, a list and a text, set says. No condition beside the listed tables, which the card ties to the text. -/
import Derived.Test.YtnodloeiabbliaaDoorSetTied
import Derived.Test.YtnodloeiabbliaaDoorSetRef4
namespace Go.Proofs.YtnodloeiabbliaaDoor.lawTells
open Go.RowKit Go.WideShapes Go.ChangeShapes Go.ChangeAt Go.Shelf Go.Proofs Go.Proofs.YtnodloeiabbliaaDoor

set_option maxRecDepth 100000 in
set_option maxHeartbeats 8000000 in
theorem walk (a b : Nat) (o : Int) (v : Value) (l : List Int) (t : ByteArray) (w : World) (la : a < 18446744073709551616) (lb : b < 18446744073709551616) (h0 : -9223372036854775808 ≤ o) (h1 : o ≤ 9223372036854775807)
    (hl : Ints w v l) (hr : ∀ x ∈ l, -9223372036854775808 ≤ x ∧ x ≤ 9223372036854775807) (ht : t.size ≤ 9223372036854775806) (hE : Env w) :
    Calls Tryd.prog 3 #[.int .u64 a, .int .u64 b, .int .i64 o, v, .string t] w fun e w' => e = .returned (.bool true) ∧ Below w.heap.size w w' := by
  have hl' := hl
  obtain ⟨A, c, rfl, g1, g2, -⟩ := hl'
  unfold maxLen at g2
  have HL := hide hl
  have HR := hide hr
  clear hl hr
  have ps := parse_same t.data.toList
  obtain ⟨y, f, hp⟩ : ∃ y f, parseF t.data.toList = (y, f) := ⟨_, _, rfl⟩
  rw [hp] at ps
  have P1 := hide hp
  have P2 := hide ps.symm
  obtain ⟨B, hB⟩ : ∃ B, hasF a o = B := ⟨_, rfl⟩
  obtain ⟨I, hI⟩ : ∃ I, addF a o = I := ⟨_, rfl⟩
  obtain ⟨D, hD⟩ : ∃ D, delF a o = D := ⟨_, rfl⟩
  obtain ⟨C, hC⟩ : ∃ C, cntF a = C := ⟨_, rfl⟩
  obtain ⟨O, hO⟩ : ∃ O, ofF l = O := ⟨_, rfl⟩
  obtain ⟨U, hU⟩ : ∃ U, underF a b = U := ⟨_, rfl⟩
  obtain ⟨F, hF⟩ : ∃ F, firstF o = F := ⟨_, rfl⟩
  obtain ⟨T, hT⟩ : ∃ T : ByteArray, (⟨(textF a).toArray⟩ : ByteArray) = T := ⟨_, rfl⟩
  have HB := hide hB
  have HI := hide hI
  have HD := hide hD
  have HC := hide hC
  have HO := hide hO
  have HU := hide hU
  have HF := hide hF
  have HT := hide hT
  clear hp ps hB hI hD hC hO hU hF hT
  go_enter Tryd.func3, Tryd.ntmps3
  go_wp2_with fail
  refine (examples_any _ hE).mono ?_
  rintro e w1 ⟨rfl, hb⟩
  have hE := hide (hE.below hb)
  go_wp2_with fail
  (with_reducible refine (Parse_any t _ (by omega) hE.out).mono ?_)
  rintro e w2 ⟨rfl, hb2⟩
  rw [P1.out]
  have hb := bcall hb hb2
  have hE := hide (hE.out.below hb2)
  go_wp2_with fail
  (with_reducible refine (rParse_any t _ ht).mono ?_)
  rintro e w3 ⟨rfl, hb3⟩
  rw [P2.out]
  have hb := bcall hb hb3
  have hE := hide (hE.out.below hb3)
  go_wp2_with fail
  (with_reducible refine (Has_any a o _ la h0 h1).mono ?_)
  rintro e w4 ⟨rfl, rfl⟩
  rw [HB.out]
  go_wp2_with fail
  (with_reducible refine (rHas_any a o _ la h0 h1).mono ?_)
  rintro e w5 ⟨rfl, rfl⟩
  rw [HB.out]
  go_wp2_with fail
  (with_reducible refine (Add_any a o _ la h0 h1).mono ?_)
  rintro e w6 ⟨rfl, rfl⟩
  rw [HI.out]
  go_wp2_with fail
  (with_reducible refine (rAdd_any a o _ la h0 h1).mono ?_)
  rintro e w7 ⟨rfl, rfl⟩
  rw [HI.out]
  go_wp2_with fail
  (with_reducible refine (Del_any a o _ la h0 h1).mono ?_)
  rintro e w8 ⟨rfl, rfl⟩
  rw [HD.out]
  go_wp2_with fail
  (with_reducible refine (rDel_any a o _ la h0 h1).mono ?_)
  rintro e w9 ⟨rfl, rfl⟩
  rw [HD.out]
  go_wp2_with fail
  (with_reducible refine (Count_any a _ la).mono ?_)
  rintro e w10 ⟨rfl, rfl⟩
  rw [HC.out]
  go_wp2_with fail
  (with_reducible refine (rCount_any a _ la).mono ?_)
  rintro e wa ⟨rfl, hba⟩
  rw [HC.out]
  have hb := bcall hb hba
  have hE := hide (hE.out.below hba)
  have HL := hide (HL.out.below hb)
  go_wp2_with fail
  (with_reducible refine (Of_any _ l _ HL.out HR.out).mono ?_)
  rintro e w11 ⟨rfl, rfl⟩
  rw [HO.out]
  go_wp2_with fail
  (with_reducible refine (rOf_any _ l _ HL.out HR.out).mono ?_)
  rintro e w12 ⟨rfl, rfl⟩
  rw [HO.out]
  go_wp2_with fail
  (with_reducible refine (List_any a la _ hE.out).mono ?_)
  rintro e wb ⟨vb, rfl, hob, hbb⟩
  have hb := bcall hb hbb
  have hE := hide (hE.out.below hbb)
  have L1 := hide (show Ints wb vb (objs a) from Sl.of_own ic_len hob)
  clear hob
  go_wp2_with fail
  (with_reducible refine (rList_any a _ la).mono ?_)
  rintro e wc ⟨vc, rfl, hoc, hbc⟩
  have hb := bcall hb hbc
  have hE := hide (hE.out.below hbc)
  have L1 := hide (L1.out.below hbc)
  have L2 := hide (show Ints wc vc (objs a) from Sl.of_own ic_len hoc)
  clear hoc
  go_wp2_with fail
  (with_reducible refine (ints_any _ _ (objs a) (objs a) _ L1.out L2.out).mono ?_)
  rintro e wd ⟨rfl, hbd⟩
  rw [show decide (objs a = objs a) = true by simp]
  have hb := bcall hb hbd
  have hE := hide (hE.out.below hbd)
  go_wp2_with fail
  (with_reducible refine (Under_any a b _ la lb).mono ?_)
  rintro e w13 ⟨rfl, rfl⟩
  rw [HU.out]
  go_wp2_with fail
  (with_reducible refine (rUnder_any a b _ la lb).mono ?_)
  rintro e w14 ⟨rfl, rfl⟩
  rw [HU.out]
  go_wp2_with fail
  (with_reducible refine (First_any o _ h0 h1).mono ?_)
  rintro e w15 ⟨rfl, rfl⟩
  rw [HF.out]
  go_wp2_with fail
  (with_reducible refine (rFirst_any o _ h0 h1).mono ?_)
  rintro e w16 ⟨rfl, rfl⟩
  rw [HF.out]
  go_wp2_with fail
  (with_reducible refine (Text_any a la _ hE.out).mono ?_)
  rintro e we ⟨rfl, hbe⟩
  rw [HT.out]
  have hb := bcall hb hbe
  go_wp2_with fail
  (with_reducible refine (rText_any a _ la).mono ?_)
  rintro e wf ⟨rfl, hbf⟩
  rw [HT.out]
  have hb := bcall hb hbf
  go_wp2
  go_ret
  exact ⟨rfl, hb⟩

set_option maxRecDepth 100000 in
theorem lifted (os : Os) (started : os.Started) (H : Type) (enc : TypeId × Value → H) :
    ReturnsInHanded {} Tryd.checked os 3 .any (fun w args => (Rows.setTellsSpec.pre enc Tryd.prog Tryd.f3 Rows.setTellsRow.domain false w args ∧ laidMetH Tryd.prog Rows.setTellsRow.laid w) ∧ sizedMet enc Tryd.prog Tryd.f3 (OpenSpec.ofChange Rows.setTellsSpec) false w args) (Rows.setTellsSpec.post enc Tryd.prog Tryd.f3 false true false false) := by
  refine handed_and_shaped (C := Tryd.checked) (X := fun w _ => laidMetH Tryd.prog Rows.setTellsRow.laid w) (fun _ _ _ hh h => h.of_heap hh) ownL started (by kernel_rfl) Tryd.func3
    (ChangeSpec.witness_shaped (enc := enc) (C := Tryd.checked) (os := os) (X := fun w _ => laidMetH Tryd.prog Rows.setTellsRow.laid w) false (World.laidAll Tryd.prog os Rows.setTellsRow.laid) #[.int .u64 0, .int .u64 0, .int .i64 0, .slice none 0 0, .string .empty] 8 (World.laidAll_os _ _ _)
      (World.shaped_of_ZipB (by kernel_rfl) (by kernel_rfl)) (by kernel_rfl) (by kernel_rfl) (by kernel_rfl)
      (by rw [MakeChecks.laidMetH_plain _ _ _ (by kernel_rfl)]; exact laidMet_laidAll _ (by kernel_rfl) (by kernel_rfl))) ?_
  intro W base args ds gs before hval0 hW hsz0 hL hsh
  have hval : ∀ (j : Nat) t v, Tryd.f3.params[j]? = some t → args[j]? = some v → Value.okWide Tryd.prog W .any base t v := hval0
  have hW' := hW
  obtain ⟨p, q, hA0, hV, rfl, hfz, hnd⟩ := hW
  have hA : DataW.TrodAll enc Tryd.prog W 0 (fun _ => true) true Tryd.f3.params.toList args.toList ds p := hA0
  rw [Tryd.params3] at hA hval
  obtain ⟨v0, vs0, d0, ds0, p0, q0, hargs, rfl, rfl, h0, r0⟩ := trodAll_cons hA
  obtain ⟨v1, vs1, d1, ds1, p1, q1, rfl, rfl, rfl, h1, r1⟩ := trodAll_cons r0
  obtain ⟨v2, vs2, d2, ds2, p2, q2, rfl, rfl, rfl, h2, r2⟩ := trodAll_cons r1
  obtain ⟨v3, vs3, d3, ds3, p3, q3, rfl, rfl, rfl, h3, r3⟩ := trodAll_cons r2
  obtain ⟨v4, vs4, d4, ds4, p4, q4, rfl, rfl, rfl, h4, r4⟩ := trodAll_cons r3
  obtain ⟨rfl, rfl, rfl⟩ := trodAll_nil r4
  obtain rfl : args = #[v0, v1, v2, v3, v4] := by cases args; simp_all
  obtain ⟨rfl, rfl⟩ := trodVars_none hV
  obtain ⟨a0, rfl, rfl, rfl, w0⟩ := open_int Tryd.underlying23 (hval 0 23 v0 rfl rfl) h0
  have hx0 : 0 ≤ a0 ∧ a0 ≤ 18446744073709551615 := by simpa [Lit.wf, IntKind.min, IntKind.max, IntKind.signed, IntKind.bits] using w0
  obtain ⟨n0, rfl⟩ : ∃ n : Nat, a0 = n := ⟨a0.toNat, by omega⟩
  obtain ⟨a1, rfl, rfl, rfl, w1⟩ := open_int Tryd.underlying23 (hval 1 23 v1 rfl rfl) h1
  have hx1 : 0 ≤ a1 ∧ a1 ≤ 18446744073709551615 := by simpa [Lit.wf, IntKind.min, IntKind.max, IntKind.signed, IntKind.bits] using w1
  obtain ⟨n1, rfl⟩ : ∃ n : Nat, a1 = n := ⟨a1.toNat, by omega⟩
  obtain ⟨a2, rfl, rfl, rfl, w2⟩ := open_int Tryd.underlying3 (hval 2 3 v2 rfl rfl) h2
  have hx2 : -9223372036854775808 ≤ a2 ∧ a2 ≤ 9223372036854775807 := by simpa [Lit.wf, IntKind.min, IntKind.max, IntKind.signed, IntKind.bits] using w2
  obtain ⟨l3, hl3, hq3, hd3⟩ := open_ints (hval 3 24 v3 rfl rfl) h3
  obtain ⟨s4, rfl, rfl, rfl, hs4⟩ := Go.ChangeMaps.open_string Tryd.underlying9 (hval 4 9 v4 rfl rfl) h4
  have hsz : (DataW.weightsEach Tryd.prog [23, 23, 3, 24, 9] ([.lit (.int .u64 n0), .lit (.int .u64 n1), .lit (.int .i64 a2), d3, .lit (.string s4.data.toList)] : List (DataW H))).all (· ≤ reachBytes) = true := hsz0
  have e3 : l3.length * 8 ≤ 140737488351232 := slice_reach hsz 3 rfl rfl Tryd.underlying24 (by kernel_rfl) hd3
  have e4 : s4.size ≤ 140737488351232 := by have h1 : s4.data.toList.length = s4.size := (by rw [Array.length_toList]; rfl); have h2 := sized_string hsz (j := 4) rfl rfl; simp only [reachBytes] at h2; omega
  have hE := env_of_laid hL hsh
  refine (walk n0 n1 a2 v3 l3 s4 W (by omega) (by omega) hx2.1 hx2.2 hl3 hq3 (by omega) hE).mono fun e W' ⟨he, hg⟩ => ?_
  subst he
  exact ⟨_, rfl, law_post laidOutL (by kernel_rfl) rfl Tryd.underlying4 rfl ⟨rfl, rfl, rfl⟩ hW' hg⟩
theorem row_holds : Rows.SetTellsSaid :=
  OpenClaim.holds_of_wide 3 Tryd.f3 rfl rfl rfl rfl rfl rfl rfl ⟨rfl, rfl, rfl, rfl, rfl⟩ rfl rfl rfl rfl rfl (by kernel_rfl) Tryd.func3 (by kernel_rfl)
    (of_decide_eq_true (by kernel_rfl)) (by unfold Func.isWrapper; first | (rw [if_pos (by decide +kernel)]; kernel_rfl) | (rw [if_neg (by decide +kernel)]; exact ⟨rfl, rfl⟩))
    (fun os started H enc _ => lifted os started H enc)

/-- THE STATEMENT -/
theorem proved : Rows.SetTellsCardSaid :=
  Claim7.holds_tied_plain_at .later [] Rows.setTellsCard.laidKinds true Rows.setTellsCard.stood.harness Rows.setTellsCard.stood.looks
    row_holds (fun _ h => by cases h) (by kernel_rfl) (fun _ h => by cases h) setTells_row_tie rfl ⟨rfl, rfl⟩ (by kernel_rfl) rfl
    (fun f fn hf hfn => by
      obtain rfl : f = 3 := Option.some.inj ((show Tryd.prog.funcNamed Rows.setTellsRow.func = some 3 by kernel_rfl).symm.trans hf) |>.symm
      obtain rfl : fn = Tryd.f3 := (Option.some.inj (Tryd.func3.symm.trans hfn)).symm
      exact ⟨by kernel_rfl, fun j t ht => by
        rw [Tryd.params3] at ht
        have hm : t ∈ [23, 23, 3, 24, 9] := by simpa using Array.mem_of_getElem? ht
        have hall : ([23, 23, 3, 24, 9].all fun u => !Tryd.prog.wantsStandIn u) = true := by kernel_rfl
        exact (show Tryd.prog.wantsStandIn t = false by simpa using List.all_eq_true.1 hall t hm)⟩)
    (by kernel_rfl)
end Go.Proofs.YtnodloeiabbliaaDoor.lawTells
