/- HeapSame: for any two heaps: to be the same is one: of itself, either way; two right ones are shown alike just if they are. No condition beside the listed tables, which the card ties to the text. -/
import Derived.Test.YtnbbjkikplfpoaaDoorHeapTied
import Derived.Test.YtnbbjkikplfpoaaDoorQuietB
namespace Go.Proofs.YtnbbjkikplfpoaaDoor.lawHeapSame
open Go.RowKit Go.WideShapes Go.ChangeShapes Go.ChangeAt Go.Shelf Go.Proofs Go.Proofs.YtnbbjkikplfpoaaDoor

theorem same_sym (n m : Int) (a b : Rws) : sameF m b n a = sameF n a m b := by
  unfold sameF; congr 1; exact propext ⟨fun h => ⟨h.1.symm, h.2.symm⟩, fun h => ⟨h.1.symm, h.2.symm⟩⟩
theorem same_self (n : Int) (a : Rws) : sameF n a n a = true := by unfold sameF; simp
theorem same_right {n m : Int} {a b : Rws} (h : sameF n a m b = true) : rightF n a = rightF m b := by
  unfold sameF at h; rw [decide_eq_true_iff] at h; rw [h.1, h.2]
theorem text_same {n m : Int} {a b : Rws} (ha : rightF n a = true) (hb : rightF m b = true) : (textF n a == textF m b) = sameF n a m b := by
  unfold sameF
  by_cases h : n = m ∧ a = b
  · rw [decide_eq_true h, h.1, h.2]; simp
  · rw [decide_eq_false h, beq_eq_false_iff_ne]
    intro e
    have h1 := heapF_of ha
    rw [e, heapF_of hb] at h1
    injection h1 with h1
    injection h1 with h1 h2
    exact h ⟨h1.symm, h2.symm⟩

set_option maxRecDepth 100000 in
set_option maxHeartbeats 8000000 in
theorem walk (n m : Int) (va vb : Value) (a b : Rws) (w : World) (ha : Grid w va a) (hb : Grid w vb b) (hE : EnvH w) :
    Calls Tryd.prog 7 #[hv n va, hv m vb] w fun e w' => e = .returned (.bool true) ∧ Below w.heap.size w w' := by
  have GA := hide ha
  have GB := hide hb
  obtain ⟨A, c, rfl, h1, h2⟩ := ha.form
  obtain ⟨B, d, rfl, h3, h4⟩ := hb.form
  unfold maxLen at h2 h4
  obtain ⟨s, hs⟩ : ∃ s, sameF n a m b = s := ⟨_, rfl⟩
  obtain ⟨ra, hra⟩ : ∃ s, rightF n a = s := ⟨_, rfl⟩
  obtain ⟨rb, hrb⟩ : ∃ s, rightF m b = s := ⟨_, rfl⟩
  obtain ⟨ta, hta⟩ : ∃ t : ByteArray, textF n a = t.data.toList := ⟨⟨(textF n a).toArray⟩, rfl⟩
  obtain ⟨tb, htb⟩ : ∃ t : ByteArray, textF m b = t.data.toList := ⟨⟨(textF m b).toArray⟩, rfl⟩
  have htt := hide (show ra = true → rb = true → (ta.toList == tb.toList) = s from fun h h' => by
    rw [ByteArray.toList_eq, ByteArray.toList_eq, ← hta, ← htb, ← hs]; exact text_same (hra.trans h) (hrb.trans h'))
  have hrr := hide (show s = true → ra = rb from fun h => by rw [← hra, ← hrb]; exact same_right (hs.trans h))
  have hsa := hide (same_self n a)
  have hsb := hide (show sameF m b n a = s by rw [same_sym, hs])
  have hs := hide hs
  have hra := hide hra
  have hrb := hide hrb
  have hta := hide hta
  have htb := hide htb
  have HE := hide hE
  have hB : Below w.heap.size w w := Below.refl _ _
  clear ha hb hE
  obtain ⟨wp0_, ep0_, hbp0_, hltp0_, -, x0p_, y0p_⟩ := box1 w (.int .i64 n) (.slice A a.length c) 24
  have hszp0_ : wp0_.heap.size = w.heap.size + 1 := by rw [← ep0_]; simp
  have HEP0_ := hide ep0_
  clear ep0_
  have GA := hide (GA.out.below hbp0_)
  have GB := hide (GB.out.below hbp0_)
  have HE := hide (HE.out.below hbp0_)
  have hB := bcall hB hbp0_
  obtain ⟨wp1_, ep1_, hbp1_, hltp1_, -, x1p_, y1p_⟩ := box1 wp0_ (.int .i64 m) (.slice B b.length d) 24
  rw [hszp0_] at x1p_ y1p_
  clear hszp0_
  have HEP1_ := hide ep1_
  clear ep1_
  have x0p_ := keepc hbp1_ x0p_
  have y0p_ := keepc hbp1_ y0p_
  have GA := hide (GA.out.below hbp1_)
  have GB := hide (GB.out.below hbp1_)
  have HE := hide (HE.out.below hbp1_)
  have hB := bcall hB hbp1_
  go_enter Tryd.func7, Tryd.ntmps7
  go_wp2_with fail
  rw [HEP0_.out, HEP1_.out]
  (with_reducible refine (examples_any _ HE.out).mono ?_)
  rintro e w0_ ⟨rfl, hb0_⟩
  have x0p_ := keepc hb0_ x0p_
  have y0p_ := keepc hb0_ y0p_
  have x1p_ := keepc hb0_ x1p_
  have y1p_ := keepc hb0_ y1p_
  have GA := hide (GA.out.below hb0_)
  have GB := hide (GB.out.below hb0_)
  have hB := bcall hB hb0_
  go_wp2_with fail
  (with_reducible refine (Same_c n m _ _ a b _ GA.out GB.out s hs.out).mono ?_)
  rintro e w1_ ⟨rfl, hb1_⟩
  have x0p_ := keepc hb1_ x0p_
  have y0p_ := keepc hb1_ y0p_
  have x1p_ := keepc hb1_ x1p_
  have y1p_ := keepc hb1_ y1p_
  have GA := hide (GA.out.below hb1_)
  have GB := hide (GB.out.below hb1_)
  have hB := bcall hB hb1_
  cases ra with
  | false =>
    cases s with
    | false =>
      have x0p_q : ∀ p : BW w1_, p.w.cell? ⟨w.heap.size, 0, none⟩ = some (.int .i64 n) := fun p => keepc p.b x0p_
      have y0p_q : ∀ p : BW w1_, p.w.cell? ⟨w.heap.size, 1, none⟩ = some (.slice A a.length c) := fun p => keepc p.b y0p_
      have x1p_q : ∀ p : BW w1_, p.w.cell? ⟨w.heap.size + 1, 0, none⟩ = some (.int .i64 m) := fun p => keepc p.b x1p_
      have y1p_q : ∀ p : BW w1_, p.w.cell? ⟨w.heap.size + 1, 1, none⟩ = some (.slice B b.length d) := fun p => keepc p.b y1p_
      have GAq := hide (fun p : BW w1_ => GA.out.below p.b)
      have GBq := hide (fun p : BW w1_ => GB.out.below p.b)
      go_wp2
      refine wp_region_below (by kernel_rfl) (by kernel_rfl) ?_
      repeat (go_big_quiet_step (first | (with_reducible refine below_of (Same_c n n _ _ a a _ (GAq.out _) (GAq.out _) true hsa.out)) | (with_reducible refine below_of (Same_c m n _ _ b a _ (GBq.out _) (GAq.out _) _ hsb.out)) | (with_reducible refine below_of (Right_c n _ a _ (GAq.out _) _ hra.out)) | (with_reducible refine below_of (Right_c m _ b _ (GBq.out _) _ hrb.out)) | (with_reducible refine below_of (Text_c n _ a _ (GAq.out _) ta hta.out)) | (with_reducible refine below_of (Text_c m _ b _ (GBq.out _) tb htb.out))))
      refine wpQuiet_nil ?_
      intro _ hw'
      obtain ⟨⟨wq_, bq_⟩, hw''⟩ := hw'
      subst hw''
      clear x0p_q y0p_q x1p_q y1p_q
      have hB := bcall hB bq_
      go_wp2
      go_ret
      exact ⟨rfl, hB⟩
    | true =>
      have hr := hrr.out rfl
      subst hr
      have x0p_q : ∀ p : BW w1_, p.w.cell? ⟨w.heap.size, 0, none⟩ = some (.int .i64 n) := fun p => keepc p.b x0p_
      have y0p_q : ∀ p : BW w1_, p.w.cell? ⟨w.heap.size, 1, none⟩ = some (.slice A a.length c) := fun p => keepc p.b y0p_
      have x1p_q : ∀ p : BW w1_, p.w.cell? ⟨w.heap.size + 1, 0, none⟩ = some (.int .i64 m) := fun p => keepc p.b x1p_
      have y1p_q : ∀ p : BW w1_, p.w.cell? ⟨w.heap.size + 1, 1, none⟩ = some (.slice B b.length d) := fun p => keepc p.b y1p_
      have GAq := hide (fun p : BW w1_ => GA.out.below p.b)
      have GBq := hide (fun p : BW w1_ => GB.out.below p.b)
      go_wp2
      refine wp_region_below (by kernel_rfl) (by kernel_rfl) ?_
      repeat (go_big_quiet_step (first | (with_reducible refine below_of (Same_c n n _ _ a a _ (GAq.out _) (GAq.out _) true hsa.out)) | (with_reducible refine below_of (Same_c m n _ _ b a _ (GBq.out _) (GAq.out _) _ hsb.out)) | (with_reducible refine below_of (Right_c n _ a _ (GAq.out _) _ hra.out)) | (with_reducible refine below_of (Right_c m _ b _ (GBq.out _) _ hrb.out)) | (with_reducible refine below_of (Text_c n _ a _ (GAq.out _) ta hta.out)) | (with_reducible refine below_of (Text_c m _ b _ (GBq.out _) tb htb.out))))
      refine wpQuiet_nil ?_
      intro _ hw'
      obtain ⟨⟨wq_, bq_⟩, hw''⟩ := hw'
      subst hw''
      clear x0p_q y0p_q x1p_q y1p_q
      have hB := bcall hB bq_
      go_wp2
      go_ret
      exact ⟨rfl, hB⟩
  | true =>
    cases rb with
    | false =>
      cases s with
      | false =>
        have x0p_q : ∀ p : BW w1_, p.w.cell? ⟨w.heap.size, 0, none⟩ = some (.int .i64 n) := fun p => keepc p.b x0p_
        have y0p_q : ∀ p : BW w1_, p.w.cell? ⟨w.heap.size, 1, none⟩ = some (.slice A a.length c) := fun p => keepc p.b y0p_
        have x1p_q : ∀ p : BW w1_, p.w.cell? ⟨w.heap.size + 1, 0, none⟩ = some (.int .i64 m) := fun p => keepc p.b x1p_
        have y1p_q : ∀ p : BW w1_, p.w.cell? ⟨w.heap.size + 1, 1, none⟩ = some (.slice B b.length d) := fun p => keepc p.b y1p_
        have GAq := hide (fun p : BW w1_ => GA.out.below p.b)
        have GBq := hide (fun p : BW w1_ => GB.out.below p.b)
        go_wp2
        refine wp_region_below (by kernel_rfl) (by kernel_rfl) ?_
        repeat (go_big_quiet_step (first | (with_reducible refine below_of (Same_c n n _ _ a a _ (GAq.out _) (GAq.out _) true hsa.out)) | (with_reducible refine below_of (Same_c m n _ _ b a _ (GBq.out _) (GAq.out _) _ hsb.out)) | (with_reducible refine below_of (Right_c n _ a _ (GAq.out _) _ hra.out)) | (with_reducible refine below_of (Right_c m _ b _ (GBq.out _) _ hrb.out)) | (with_reducible refine below_of (Text_c n _ a _ (GAq.out _) ta hta.out)) | (with_reducible refine below_of (Text_c m _ b _ (GBq.out _) tb htb.out))))
        refine wpQuiet_nil ?_
        intro _ hw'
        obtain ⟨⟨wq_, bq_⟩, hw''⟩ := hw'
        subst hw''
        clear x0p_q y0p_q x1p_q y1p_q
        have hB := bcall hB bq_
        go_wp2
        go_ret
        exact ⟨rfl, hB⟩
      | true =>
        exact absurd (hrr.out rfl) (by decide)
    | true =>
      cases s with
      | false =>
        have hq := htt.out rfl rfl
        have x0p_q : ∀ p : BW w1_, p.w.cell? ⟨w.heap.size, 0, none⟩ = some (.int .i64 n) := fun p => keepc p.b x0p_
        have y0p_q : ∀ p : BW w1_, p.w.cell? ⟨w.heap.size, 1, none⟩ = some (.slice A a.length c) := fun p => keepc p.b y0p_
        have x1p_q : ∀ p : BW w1_, p.w.cell? ⟨w.heap.size + 1, 0, none⟩ = some (.int .i64 m) := fun p => keepc p.b x1p_
        have y1p_q : ∀ p : BW w1_, p.w.cell? ⟨w.heap.size + 1, 1, none⟩ = some (.slice B b.length d) := fun p => keepc p.b y1p_
        have GAq := hide (fun p : BW w1_ => GA.out.below p.b)
        have GBq := hide (fun p : BW w1_ => GB.out.below p.b)
        go_wp2
        refine wp_region_below (by kernel_rfl) (by kernel_rfl) ?_
        repeat (go_big_quiet_step (first | (with_reducible refine below_of (Same_c n n _ _ a a _ (GAq.out _) (GAq.out _) true hsa.out)) | (with_reducible refine below_of (Same_c m n _ _ b a _ (GBq.out _) (GAq.out _) _ hsb.out)) | (with_reducible refine below_of (Right_c n _ a _ (GAq.out _) _ hra.out)) | (with_reducible refine below_of (Right_c m _ b _ (GBq.out _) _ hrb.out)) | (with_reducible refine below_of (Text_c n _ a _ (GAq.out _) ta hta.out)) | (with_reducible refine below_of (Text_c m _ b _ (GBq.out _) tb htb.out))))
        refine wpQuiet_nil ?_
        intro _ hw'
        obtain ⟨⟨wq_, bq_⟩, hw''⟩ := hw'
        subst hw''
        clear x0p_q y0p_q x1p_q y1p_q
        have hB := bcall hB bq_
        go_wp2
        go_ret
        exact ⟨rfl, hB⟩
      | true =>
        have hq := htt.out rfl rfl
        have x0p_q : ∀ p : BW w1_, p.w.cell? ⟨w.heap.size, 0, none⟩ = some (.int .i64 n) := fun p => keepc p.b x0p_
        have y0p_q : ∀ p : BW w1_, p.w.cell? ⟨w.heap.size, 1, none⟩ = some (.slice A a.length c) := fun p => keepc p.b y0p_
        have x1p_q : ∀ p : BW w1_, p.w.cell? ⟨w.heap.size + 1, 0, none⟩ = some (.int .i64 m) := fun p => keepc p.b x1p_
        have y1p_q : ∀ p : BW w1_, p.w.cell? ⟨w.heap.size + 1, 1, none⟩ = some (.slice B b.length d) := fun p => keepc p.b y1p_
        have GAq := hide (fun p : BW w1_ => GA.out.below p.b)
        have GBq := hide (fun p : BW w1_ => GB.out.below p.b)
        go_wp2
        refine wp_region_below (by kernel_rfl) (by kernel_rfl) ?_
        repeat (go_big_quiet_step (first | (with_reducible refine below_of (Same_c n n _ _ a a _ (GAq.out _) (GAq.out _) true hsa.out)) | (with_reducible refine below_of (Same_c m n _ _ b a _ (GBq.out _) (GAq.out _) _ hsb.out)) | (with_reducible refine below_of (Right_c n _ a _ (GAq.out _) _ hra.out)) | (with_reducible refine below_of (Right_c m _ b _ (GBq.out _) _ hrb.out)) | (with_reducible refine below_of (Text_c n _ a _ (GAq.out _) ta hta.out)) | (with_reducible refine below_of (Text_c m _ b _ (GBq.out _) tb htb.out))))
        refine wpQuiet_nil ?_
        intro _ hw'
        obtain ⟨⟨wq_, bq_⟩, hw''⟩ := hw'
        subst hw''
        clear x0p_q y0p_q x1p_q y1p_q
        have hB := bcall hB bq_
        go_wp2
        go_ret
        exact ⟨rfl, hB⟩

set_option maxRecDepth 100000 in
theorem lifted (os : Os) (started : os.Started) (H : Type) (enc : TypeId × Value → H) :
    ReturnsInHanded {} Tryd.checked os 7 .any (fun w args => (Rows.heapSameSpec.pre enc Tryd.prog Tryd.f7 Rows.heapSameRow.domain false w args ∧ laidMetH Tryd.prog Rows.heapSameRow.laid w) ∧ sizedMet enc Tryd.prog Tryd.f7 (OpenSpec.ofChange Rows.heapSameSpec) false w args) (Rows.heapSameSpec.post enc Tryd.prog Tryd.f7 false true false false) := by
  refine handed_and_shaped (C := Tryd.checked) (X := fun w _ => laidMetH Tryd.prog Rows.heapSameRow.laid w) (fun _ _ _ hh h => h.of_heap hh) ownL started (by kernel_rfl) Tryd.func7
    (ChangeSpec.witness_shaped (enc := enc) (C := Tryd.checked) (os := os) (X := fun w _ => laidMetH Tryd.prog Rows.heapSameRow.laid w) false (World.laidAll Tryd.prog os Rows.heapSameRow.laid) #[.agg #[.int .i64 0, .slice none 0 0], .agg #[.int .i64 0, .slice none 0 0]] 8 (World.laidAll_os _ _ _)
      (World.shaped_of_ZipB (by kernel_rfl) (by kernel_rfl)) (by kernel_rfl) (by kernel_rfl) (by kernel_rfl)
      (by rw [MakeChecks.laidMetH_plain _ _ _ (by kernel_rfl)]; exact laidMet_laidAll _ (by kernel_rfl) (by kernel_rfl))) ?_
  intro W base args ds gs before hval0 hW hsz0 hL hsh
  have hval : ∀ (j : Nat) t v, Tryd.f7.params[j]? = some t → args[j]? = some v → Value.okWide Tryd.prog W .any base t v := hval0
  have hW' := hW
  obtain ⟨p, q, hA0, hV, rfl, hfz, hnd⟩ := hW
  have hA : DataW.TrodAll enc Tryd.prog W 0 (fun _ => true) true Tryd.f7.params.toList args.toList ds p := hA0
  rw [Tryd.params7] at hA hval
  obtain ⟨v0, vs0, d0, ds0, p0, q0, hargs, rfl, rfl, h0, r0⟩ := trodAll_cons hA
  obtain ⟨v1, vs1, d1, ds1, p1, q1, rfl, rfl, rfl, h1, r1⟩ := trodAll_cons r0
  obtain ⟨rfl, rfl, rfl⟩ := trodAll_nil r1
  obtain rfl : args = #[v0, v1] := by cases args; simp_all
  obtain ⟨rfl, rfl⟩ := trodVars_none hV
  obtain ⟨n0, u0, ls0, rfl, hg0, hn0, hr0, hf0⟩ := open_heap (hval 0 24 v0 rfl rfl) h0
  obtain ⟨n1, u1, ls1, rfl, hg1, hn1, hr1, hf1⟩ := open_heap (hval 1 24 v1 rfl rfl) h1
  have hsz : (DataW.weightsEach Tryd.prog [24, 24] ([d0, d1] : List (DataW H))).all (· ≤ reachBytes) = true := hsz0
  have e0 : Fit ls0 := hf0 fun k hk => by have h1 := List.all_eq_true.1 hsz k (DataW.weights_mem_each (j := 0) rfl rfl k hk); simpa [reachBytes] using of_decide_eq_true h1
  have e1 : Fit ls1 := hf1 fun k hk => by have h1 := List.all_eq_true.1 hsz k (DataW.weights_mem_each (j := 1) rfl rfl k hk); simpa [reachBytes] using of_decide_eq_true h1
  have hE := env_of_laid hL
  refine (walk n0 n1 _ _ ls0 ls1 W hg0 hg1 hE).mono fun e W' ⟨he, hg⟩ => ?_
  subst he
  exact ⟨_, rfl, law_post laidOutL (by kernel_rfl) rfl Tryd.underlying4 rfl ⟨rfl, rfl, rfl⟩ hW' hg⟩
theorem row_holds : Rows.HeapSameSaid :=
  OpenClaim.holds_of_wide 7 Tryd.f7 rfl rfl rfl rfl rfl rfl rfl ⟨rfl, rfl, rfl, rfl, rfl⟩ rfl rfl rfl rfl rfl (by kernel_rfl) Tryd.func7 (by kernel_rfl)
    (of_decide_eq_true (by kernel_rfl)) (by unfold Func.isWrapper; first | (rw [if_pos (by decide +kernel)]; kernel_rfl) | (rw [if_neg (by decide +kernel)]; exact ⟨rfl, rfl⟩))
    (fun os started H enc _ => lifted os started H enc)

/-- THE STATEMENT -/
theorem proved : Rows.HeapSameCardSaid :=
  Claim7.holds_tied_plain_at .later [] Rows.heapSameCard.laidKinds true Rows.heapSameCard.stood.harness Rows.heapSameCard.stood.looks
    row_holds (fun _ h => by cases h) (by kernel_rfl) (fun _ h => by cases h) heapSame_row_tie rfl ⟨rfl, rfl⟩ (by kernel_rfl) rfl
    (fun f fn hf hfn => by
      obtain rfl : f = 7 := Option.some.inj ((show Tryd.prog.funcNamed Rows.heapSameRow.func = some 7 by kernel_rfl).symm.trans hf) |>.symm
      obtain rfl : fn = Tryd.f7 := (Option.some.inj (Tryd.func7.symm.trans hfn)).symm
      exact ⟨by kernel_rfl, fun j t ht => by
        rw [Tryd.params7] at ht
        have hm : t ∈ [24, 24] := by simpa using Array.mem_of_getElem? ht
        have hall : ([24, 24].all fun u => !Tryd.prog.wantsStandIn u) = true := by kernel_rfl
        exact (show Tryd.prog.wantsStandIn t = false by simpa using List.all_eq_true.1 hall t hm)⟩)
    (by kernel_rfl)
end Go.Proofs.YtnbbjkikplfpoaaDoor.lawHeapSame
