/- HeapBack: for any heap and any text: what is shown of a right heap is parsed as it; a text that is parsed is a right heap's. No condition beside the listed tables, which the card ties to the text. -/
import Derived.Test.YtnbbjkikplfpoaaDoorHeapTied
import Derived.Test.YtnbbjkikplfpoaaDoorQuietB
namespace Go.Proofs.YtnbbjkikplfpoaaDoor.lawHeapBack
open Go.RowKit Go.WideShapes Go.ChangeShapes Go.ChangeAt Go.Shelf Go.Proofs Go.Proofs.YtnbbjkikplfpoaaDoor

theorem text_len (n : Int) (ls : Rws) : (textF n ls).length ≤ 1000 := by
  unfold textF
  split
  · rename_i h
    have hl := right_len h
    have hr := right_rows h
    have h1 := objs_len ls (fun l hl' => ⟨by have := (hr l hl').1; omega, fun v hv => by have := (hr l hl').2 v hv; omega⟩)
    have h2 := dec_len (v := n) (by omega) (by omega)
    rw [List.length_append]; omega
  · simp

set_option maxRecDepth 100000 in
set_option maxHeartbeats 8000000 in
theorem walk (n : Int) (vh : Value) (ls : Rws) (t : ByteArray) (w : World) (hh : Grid w vh ls) (ht : t.size ≤ 140737488351232) (hE : EnvH w) :
    Calls Tryd.prog 6 #[hv n vh, .string t] w fun e w' => e = .returned (.bool true) ∧ Below w.heap.size w w' := by
  have GH := hide hh
  obtain ⟨A, c, rfl, h1, h2⟩ := hh.form
  unfold maxLen at h2
  obtain ⟨L, hL⟩ : ∃ L, ls.length = L := ⟨_, rfl⟩
  rw [hL] at GH h1 ⊢
  obtain ⟨r, hr⟩ : ∃ r, rightF n ls = r := ⟨_, rfl⟩
  obtain ⟨ta, hta⟩ : ∃ t : ByteArray, textF n ls = t.data.toList := ⟨⟨(textF n ls).toArray⟩, rfl⟩
  have hts := hide (show ta.size ≤ 140737488351232 by
    have h5 : ta.size = (textF n ls).length := by rw [hta, Array.length_toList]; rfl
    have h6 := text_len n ls
    omega)
  have hpa := hide (show r = true → heapF ta.data.toList = some (n, ls) from fun h => by rw [← hta]; exact heapF_of (hr.trans h))
  have hpn := hide (show r = false → heapF ta.data.toList = none from fun h => by
    rw [← hta]; unfold textF; rw [if_neg (by rw [hr, h]; decide)]; exact heapF_wrong)
  have hss := hide (show sameF n ls n ls = true by unfold sameF; simp)
  have hsz := hide ht
  have hL := hide hL
  have hr := hide hr
  have hta := hide hta
  have HE := hide hE
  have hB : Below w.heap.size w w := Below.refl _ _
  clear hh ht hE
  obtain ⟨wp0_, ep0_, hbp0_, hltp0_, -, x0p_, y0p_⟩ := box1 w (.int .i64 n) (.slice A L c) 24
  have HEP0_ := hide ep0_
  clear ep0_
  have GH := hide (GH.out.below hbp0_)
  have HE := hide (HE.out.below hbp0_)
  have hB := bcall hB hbp0_
  go_enter Tryd.func6, Tryd.ntmps6
  go_wp2_with fail
  rw [HEP0_.out]
  (with_reducible refine (examples_any _ HE.out).mono ?_)
  rintro e w0_ ⟨rfl, hb0_⟩
  have x0p_ := keepc hb0_ x0p_
  have y0p_ := keepc hb0_ y0p_
  have GH := hide (GH.out.below hb0_)
  have hB := bcall hB hb0_
  have HE := hide (HE.out.below hb0_)
  go_wp2_with fail
  (with_reducible refine (Text_c n _ ls _ GH.out ta hta.out).mono ?_)
  rintro e w1_ ⟨rfl, hb1_⟩
  have x0p_ := keepc hb1_ x0p_
  have y0p_ := keepc hb1_ y0p_
  have GH := hide (GH.out.below hb1_)
  have HE := hide (HE.out.below hb1_)
  have hB := bcall hB hb1_
  cases r with
  | false =>
    have hpp := hide (hpn.out rfl)
    clear hpa hpn
    go_wp2_with fail
    (with_reducible refine (Parse_c ta _ hts.out HE.out 0 [] 2 (.inr ⟨hpp.out, rfl, rfl, rfl⟩) 0 rfl).mono ?_)
    rintro e w2_ ⟨A2_, c2_, rfl, p2_, q2_, GA, hb2_⟩
    have x0p_ := keepc hb2_ x0p_
    have y0p_ := keepc hb2_ y0p_
    have GH := hide (GH.out.below hb2_)
    have HE := hide (HE.out.below hb2_)
    have hB := bcall hB hb2_
    have GA := hide GA.out.grid
    obtain ⟨wb2_, eb2_, hbb2_, hlt2_, -, x2_, y2_⟩ := box1 w2_ (.int .i64 0) (.slice A2_ 0 c2_) 24
    have HEB2_ := hide eb2_
    clear eb2_
    have x0p_a := fun o => keepc (bal w2_ o) x0p_
    have y0p_a := fun o => keepc (bal w2_ o) y0p_
    have x0p_ := keepc hbb2_ x0p_
    have y0p_ := keepc hbb2_ y0p_
    have GH := hide (GH.out.below hbb2_)
    have GA := hide (GA.out.below hbb2_)
    have HE := hide (HE.out.below hbb2_)
    have hB := bcall hB hbb2_
    go_wp2_with fail
    rw [HEB2_.out]
    clear x0p_a y0p_a
    (with_reducible refine (Right_c n _ ls _ GH.out _ hr.out).mono ?_)
    rintro e w3_ ⟨rfl, hb3_⟩
    have x0p_ := keepc hb3_ x0p_
    have y0p_ := keepc hb3_ y0p_
    have x2_ := keepc hb3_ x2_
    have y2_ := keepc hb3_ y2_
    have GH := hide (GH.out.below hb3_)
    have GA := hide (GA.out.below hb3_)
    have HE := hide (HE.out.below hb3_)
    have hB := bcall hB hb3_
    rcases ht : heapF t.data.toList with _ | ⟨m, R⟩
    · have ht := hide ht
      go_wp2_with fail
      (with_reducible refine (Parse_c t _ hsz.out HE.out 0 [] 2 (.inr ⟨ht.out, rfl, rfl, rfl⟩) 0 rfl).mono ?_)
      rintro e w4_ ⟨A4_, c4_, rfl, p4_, q4_, GB, hb4_⟩
      have HE := hide (HE.out.below hb4_)
      have hB := bcall hB hb4_
      have GB := hide GB.out.grid
      obtain ⟨wb4_, eb4_, hbb4_, hlt4_, -, x4_, y4_⟩ := box1 w4_ (.int .i64 0) (.slice A4_ 0 c4_) 24
      have HEB4_ := hide eb4_
      clear eb4_
      have GB := hide (GB.out.below hbb4_)
      have HE := hide (HE.out.below hbb4_)
      have hB := bcall hB hbb4_
      go_wp2_with fail
      rw [HEB4_.out]
      go_wp2
      go_ret
      exact ⟨rfl, hB⟩
    · have ht := hide ht
      have hR := hide (heapF_text ht.out).1
      have hT := hide (heapF_text ht.out).2
      obtain ⟨K, hK⟩ : ∃ K, R.length = K := ⟨_, rfl⟩
      have hK := hide hK
      go_wp2_with fail
      (with_reducible refine (Parse_c t _ hsz.out HE.out m R 0 (.inl ⟨ht.out, rfl⟩) K hK.out).mono ?_)
      rintro e w4_ ⟨A4_, c4_, rfl, p4_, q4_, GB, hb4_⟩
      have HE := hide (HE.out.below hb4_)
      have hB := bcall hB hb4_
      have GB := hide GB.out.grid
      obtain ⟨wb4_, eb4_, hbb4_, hlt4_, -, x4_, y4_⟩ := box1 w4_ (.int .i64 m) (.slice A4_ K c4_) 24
      have HEB4_ := hide eb4_
      clear eb4_
      have GB := hide (GB.out.below hbb4_)
      have HE := hide (HE.out.below hbb4_)
      have hB := bcall hB hbb4_
      go_wp2_with fail
      rw [HEB4_.out]
      (with_reducible refine (Right_c m _ R _ GB.out true hR.out).mono ?_)
      rintro e w5_ ⟨rfl, hb5_⟩
      have x4_ := keepc hb5_ x4_
      have y4_ := keepc hb5_ y4_
      have GB := hide (GB.out.below hb5_)
      have HE := hide (HE.out.below hb5_)
      have hB := bcall hB hb5_
      go_wp2_with fail
      (with_reducible refine (Text_c m _ R _ GB.out t hT.out).mono ?_)
      rintro e w6_ ⟨rfl, hb6_⟩
      have x4_ := keepc hb6_ x4_
      have y4_ := keepc hb6_ y4_
      have GB := hide (GB.out.below hb6_)
      have HE := hide (HE.out.below hb6_)
      have hB := bcall hB hb6_
      go_wp2
      go_ret
      exact ⟨rfl, hB⟩
  | true =>
    have hpp := hide (hpa.out rfl)
    clear hpa hpn
    go_wp2_with fail
    (with_reducible refine (Parse_c ta _ hts.out HE.out n ls 0 (.inl ⟨hpp.out, rfl⟩) L hL.out).mono ?_)
    rintro e w2_ ⟨A2_, c2_, rfl, p2_, q2_, GA, hb2_⟩
    have x0p_ := keepc hb2_ x0p_
    have y0p_ := keepc hb2_ y0p_
    have GH := hide (GH.out.below hb2_)
    have HE := hide (HE.out.below hb2_)
    have hB := bcall hB hb2_
    have GA := hide GA.out.grid
    obtain ⟨wb2_, eb2_, hbb2_, hlt2_, -, x2_, y2_⟩ := box1 w2_ (.int .i64 n) (.slice A2_ L c2_) 24
    have HEB2_ := hide eb2_
    clear eb2_
    have x0p_a := fun o => keepc (bal w2_ o) x0p_
    have y0p_a := fun o => keepc (bal w2_ o) y0p_
    have x0p_ := keepc hbb2_ x0p_
    have y0p_ := keepc hbb2_ y0p_
    have GH := hide (GH.out.below hbb2_)
    have GA := hide (GA.out.below hbb2_)
    have HE := hide (HE.out.below hbb2_)
    have hB := bcall hB hbb2_
    go_wp2_with fail
    rw [HEB2_.out]
    clear x0p_a y0p_a
    (with_reducible refine (Right_c n _ ls _ GH.out _ hr.out).mono ?_)
    rintro e w3_ ⟨rfl, hb3_⟩
    have x0p_ := keepc hb3_ x0p_
    have y0p_ := keepc hb3_ y0p_
    have x2_ := keepc hb3_ x2_
    have y2_ := keepc hb3_ y2_
    have GH := hide (GH.out.below hb3_)
    have GA := hide (GA.out.below hb3_)
    have HE := hide (HE.out.below hb3_)
    have hB := bcall hB hb3_
    go_wp2_with fail
    (with_reducible refine (Same_c n n _ _ ls ls _ GA.out GH.out true hss.out).mono ?_)
    rintro e w4_ ⟨rfl, hb4_⟩
    have x0p_ := keepc hb4_ x0p_
    have y0p_ := keepc hb4_ y0p_
    have x2_ := keepc hb4_ x2_
    have y2_ := keepc hb4_ y2_
    have GH := hide (GH.out.below hb4_)
    have GA := hide (GA.out.below hb4_)
    have HE := hide (HE.out.below hb4_)
    have hB := bcall hB hb4_
    rcases ht : heapF t.data.toList with _ | ⟨m, R⟩
    · have ht := hide ht
      go_wp2_with fail
      (with_reducible refine (Parse_c t _ hsz.out HE.out 0 [] 2 (.inr ⟨ht.out, rfl, rfl, rfl⟩) 0 rfl).mono ?_)
      rintro e w5_ ⟨A5_, c5_, rfl, p5_, q5_, GB, hb5_⟩
      have HE := hide (HE.out.below hb5_)
      have hB := bcall hB hb5_
      have GB := hide GB.out.grid
      obtain ⟨wb5_, eb5_, hbb5_, hlt5_, -, x5_, y5_⟩ := box1 w5_ (.int .i64 0) (.slice A5_ 0 c5_) 24
      have HEB5_ := hide eb5_
      clear eb5_
      have GB := hide (GB.out.below hbb5_)
      have HE := hide (HE.out.below hbb5_)
      have hB := bcall hB hbb5_
      go_wp2_with fail
      rw [HEB5_.out]
      go_wp2
      go_ret
      exact ⟨rfl, hB⟩
    · have ht := hide ht
      have hR := hide (heapF_text ht.out).1
      have hT := hide (heapF_text ht.out).2
      obtain ⟨K, hK⟩ : ∃ K, R.length = K := ⟨_, rfl⟩
      have hK := hide hK
      go_wp2_with fail
      (with_reducible refine (Parse_c t _ hsz.out HE.out m R 0 (.inl ⟨ht.out, rfl⟩) K hK.out).mono ?_)
      rintro e w5_ ⟨A5_, c5_, rfl, p5_, q5_, GB, hb5_⟩
      have HE := hide (HE.out.below hb5_)
      have hB := bcall hB hb5_
      have GB := hide GB.out.grid
      obtain ⟨wb5_, eb5_, hbb5_, hlt5_, -, x5_, y5_⟩ := box1 w5_ (.int .i64 m) (.slice A5_ K c5_) 24
      have HEB5_ := hide eb5_
      clear eb5_
      have GB := hide (GB.out.below hbb5_)
      have HE := hide (HE.out.below hbb5_)
      have hB := bcall hB hbb5_
      go_wp2_with fail
      rw [HEB5_.out]
      (with_reducible refine (Right_c m _ R _ GB.out true hR.out).mono ?_)
      rintro e w6_ ⟨rfl, hb6_⟩
      have x5_ := keepc hb6_ x5_
      have y5_ := keepc hb6_ y5_
      have GB := hide (GB.out.below hb6_)
      have HE := hide (HE.out.below hb6_)
      have hB := bcall hB hb6_
      go_wp2_with fail
      (with_reducible refine (Text_c m _ R _ GB.out t hT.out).mono ?_)
      rintro e w7_ ⟨rfl, hb7_⟩
      have x5_ := keepc hb7_ x5_
      have y5_ := keepc hb7_ y5_
      have GB := hide (GB.out.below hb7_)
      have HE := hide (HE.out.below hb7_)
      have hB := bcall hB hb7_
      go_wp2
      go_ret
      exact ⟨rfl, hB⟩

set_option maxRecDepth 100000 in
theorem lifted (os : Os) (started : os.Started) (H : Type) (enc : TypeId × Value → H) :
    ReturnsInHanded {} Tryd.checked os 6 .any (fun w args => (Rows.heapBackSpec.pre enc Tryd.prog Tryd.f6 Rows.heapBackRow.domain false w args ∧ laidMetH Tryd.prog Rows.heapBackRow.laid w) ∧ sizedMet enc Tryd.prog Tryd.f6 (OpenSpec.ofChange Rows.heapBackSpec) false w args) (Rows.heapBackSpec.post enc Tryd.prog Tryd.f6 false true false false) := by
  refine handed_and_shaped (C := Tryd.checked) (X := fun w _ => laidMetH Tryd.prog Rows.heapBackRow.laid w) (fun _ _ _ hh h => h.of_heap hh) ownL started (by kernel_rfl) Tryd.func6
    (ChangeSpec.witness_shaped (enc := enc) (C := Tryd.checked) (os := os) (X := fun w _ => laidMetH Tryd.prog Rows.heapBackRow.laid w) false (World.laidAll Tryd.prog os Rows.heapBackRow.laid) #[.agg #[.int .i64 0, .slice none 0 0], .string .empty] 8 (World.laidAll_os _ _ _)
      (World.shaped_of_ZipB (by kernel_rfl) (by kernel_rfl)) (by kernel_rfl) (by kernel_rfl) (by kernel_rfl)
      (by rw [MakeChecks.laidMetH_plain _ _ _ (by kernel_rfl)]; exact laidMet_laidAll _ (by kernel_rfl) (by kernel_rfl))) ?_
  intro W base args ds gs before hval0 hW hsz0 hL hsh
  have hval : ∀ (j : Nat) t v, Tryd.f6.params[j]? = some t → args[j]? = some v → Value.okWide Tryd.prog W .any base t v := hval0
  have hW' := hW
  obtain ⟨p, q, hA0, hV, rfl, hfz, hnd⟩ := hW
  have hA : DataW.TrodAll enc Tryd.prog W 0 (fun _ => true) true Tryd.f6.params.toList args.toList ds p := hA0
  rw [Tryd.params6] at hA hval
  obtain ⟨v0, vs0, d0, ds0, p0, q0, hargs, rfl, rfl, h0, r0⟩ := trodAll_cons hA
  obtain ⟨v1, vs1, d1, ds1, p1, q1, rfl, rfl, rfl, h1, r1⟩ := trodAll_cons r0
  obtain ⟨rfl, rfl, rfl⟩ := trodAll_nil r1
  obtain rfl : args = #[v0, v1] := by cases args; simp_all
  obtain ⟨rfl, rfl⟩ := trodVars_none hV
  obtain ⟨n0, u0, ls0, rfl, hg0, hn0, hr0, hf0⟩ := open_heap (hval 0 24 v0 rfl rfl) h0
  obtain ⟨s1, rfl, rfl, rfl, hs1⟩ := Go.ChangeMaps.open_string Tryd.underlying9 (hval 1 9 v1 rfl rfl) h1
  have hsz : (DataW.weightsEach Tryd.prog [24, 9] ([d0, .lit (.string s1.data.toList)] : List (DataW H))).all (· ≤ reachBytes) = true := hsz0
  have e0 : Fit ls0 := hf0 fun k hk => by have h1 := List.all_eq_true.1 hsz k (DataW.weights_mem_each (j := 0) rfl rfl k hk); simpa [reachBytes] using of_decide_eq_true h1
  have e1 : s1.size ≤ 140737488351232 := by have h1 : s1.data.toList.length = s1.size := (by rw [Array.length_toList]; rfl); have h2 := sized_string hsz (j := 1) rfl rfl; simp only [reachBytes] at h2; omega
  have hE := env_of_laid hL
  refine (walk n0 _ ls0 s1 W hg0 e1 hE).mono fun e W' ⟨he, hg⟩ => ?_
  subst he
  exact ⟨_, rfl, law_post laidOutL (by kernel_rfl) rfl Tryd.underlying4 rfl ⟨rfl, rfl, rfl⟩ hW' hg⟩
theorem row_holds : Rows.HeapBackSaid :=
  OpenClaim.holds_of_wide 6 Tryd.f6 rfl rfl rfl rfl rfl rfl rfl ⟨rfl, rfl, rfl, rfl, rfl⟩ rfl rfl rfl rfl rfl (by kernel_rfl) Tryd.func6 (by kernel_rfl)
    (of_decide_eq_true (by kernel_rfl)) (by unfold Func.isWrapper; first | (rw [if_pos (by decide +kernel)]; kernel_rfl) | (rw [if_neg (by decide +kernel)]; exact ⟨rfl, rfl⟩))
    (fun os started H enc _ => lifted os started H enc)

/-- THE STATEMENT -/
theorem proved : Rows.HeapBackCardSaid :=
  Claim7.holds_tied_plain_at .later [] Rows.heapBackCard.laidKinds true Rows.heapBackCard.stood.harness Rows.heapBackCard.stood.looks
    row_holds (fun _ h => by cases h) (by kernel_rfl) (fun _ h => by cases h) heapBack_row_tie rfl ⟨rfl, rfl⟩ (by kernel_rfl) rfl
    (fun f fn hf hfn => by
      obtain rfl : f = 6 := Option.some.inj ((show Tryd.prog.funcNamed Rows.heapBackRow.func = some 6 by kernel_rfl).symm.trans hf) |>.symm
      obtain rfl : fn = Tryd.f6 := (Option.some.inj (Tryd.func6.symm.trans hfn)).symm
      exact ⟨by kernel_rfl, fun j t ht => by
        rw [Tryd.params6] at ht
        have hm : t ∈ [24, 9] := by simpa using Array.mem_of_getElem? ht
        have hall : ([24, 9].all fun u => !Tryd.prog.wantsStandIn u) = true := by kernel_rfl
        exact (show Tryd.prog.wantsStandIn t = false by simpa using List.all_eq_true.1 hall t hm)⟩)
    (by kernel_rfl)
end Go.Proofs.YtnbbjkikplfpoaaDoor.lawHeapBack
