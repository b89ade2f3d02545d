/- ReachTells: for any heap and sets: From, Via and Dist tell what the document tells. No condition beside the listed table, which the card ties to the text. -/
import Derived.Test.YtohfpcnekfpdkaaDoorReachTied
import Derived.Test.YtohfpcnekfpdkaaDoorRefReach3
import Derived.Test.YtohfpcnekfpdkaaDoorRefHeap
namespace Go.Proofs.YtohfpcnekfpdkaaDoor.lawReachTells
open Go.RowKit Go.WideShapes Go.ChangeShapes Go.ChangeAt Go.Proofs Go.Proofs.YtohfpcnekfpdkaaDoor

theorem rDist_c (n : Int) (v : Value) (ls : Rws) (r : Nat) (w : World) (hr : r < 18446744073709551616) (hG : Grid w v ls) (hR : Rng ls) (D : List Int) (hD : distF ls r = D) (k : Nat) (hk : D.length = k) :
    Calls Tryd.prog 30 #[hv n v, .int .u64 r] w fun e w' => ∃ A c, e = .returned (.slice A k c) ∧ k ≤ c ∧ c ≤ 9223372036854775807 ∧ Hid (Ints w' (.slice A k c) D) ∧ Below w.heap.size w w' := by
  refine (rDist_any n v ls r w hr hG hR).mono ?_
  rintro e w' ⟨v', rfl, hO, hB⟩
  rw [hD] at hO
  have hI := Sl.of_own ic_len hO
  obtain ⟨A, c, rfl, h1, h2, -⟩ := id hI
  unfold maxLen at h2
  rw [hk] at h1 hI ⊢
  exact ⟨A, c, rfl, h1, by omega, hide hI, hB⟩
theorem rFrom_c (n : Int) (v : Value) (ls : Rws) (r : Nat) (w : World) (hr : r < 18446744073709551616) (h : Grid w v ls) (hR : Rng ls) (O : Nat) (hO : fromF ls r = O) :
    Calls Tryd.prog 32 #[hv n v, .int .u64 r] w fun e w' => e = .returned (.int .u64 (O : Nat)) ∧ Below w.heap.size w w' := by
  subst hO; exact rFrom_any n v ls r w hr h hR
set_option maxRecDepth 100000 in
set_option maxHeartbeats 8000000 in
theorem walk (n : Int) (vh : Value) (ls : Rws) (r o : Nat) (w : World) (hh : Grid w vh ls) (hR : Rng ls) (hr : r < 18446744073709551616) (ho : o < 18446744073709551616) (hE : EnvT w) :
    Calls Tryd.prog 4 #[hv n vh, .int .u64 r, .int .u64 o] w fun e w' => e = .returned (.bool true) ∧ Below w.heap.size w w' := by
  have GH := hide hh
  have HE := hide hE
  have hB : Below w.heap.size w w := Below.refl _ _
  obtain ⟨A, c, rfl, h1, h2⟩ := hh.form
  unfold maxLen at h2
  obtain ⟨L, hL⟩ : ∃ L, ls.length = L := ⟨_, rfl⟩
  rw [hL] at GH h1 ⊢
  obtain ⟨D, hD⟩ : ∃ D, distF ls r = D := ⟨_, rfl⟩
  obtain ⟨k, hDk⟩ : ∃ k, D.length = k := ⟨_, rfl⟩
  have hk64 : k ≤ 64 := by rw [← hDk, ← hD]; unfold distF; simp; omega
  obtain ⟨F, hF⟩ : ∃ X, fromF ls r = X := ⟨_, rfl⟩
  obtain ⟨V, hV⟩ : ∃ X, viaF ls r o = X := ⟨_, rfl⟩
  have hFr := hide hF
  have hVr := hide hV
  have hF := hide (show ((fromF ls r : Nat) : Int) = F by rw [hF])
  have hV := hide (show ((viaF ls r o : Nat) : Int) = V by rw [hV])
  have hD := hide hD
  have hDk := hide hDk
  have hR := hide hR
  clear hh hE
  obtain ⟨wp0_, ep0_, hbp0_, hltp0_, -, x0p_, y0p_⟩ := box1 w (.int .i64 n) (.slice A L c) 24
  have HEP0_ := hide ep0_
  clear ep0_
  have GH := hide (GH.out.below hbp0_)
  have HE := hide (HE.out.below hbp0_)
  have hB := bcall hB hbp0_
  go_enter Tryd.func4, Tryd.ntmps4
  go_wp2_with fail
  rw [HEP0_.out]
  (with_reducible refine (examples_any _ HE.out).mono ?_)
  rintro e w0_ ⟨rfl, hb0_⟩
  have x0p_ := keepc hb0_ x0p_
  have y0p_ := keepc hb0_ y0p_
  have GH := hide (GH.out.below hb0_)
  have HE := hide (HE.out.below hb0_)
  have hB := bcall hB hb0_
  go_wp2_with fail
  (with_reducible refine (refHeap_any n _ _ _ _).mono ?_)
  rintro e w1_ ⟨rfl, hb1_⟩
  have x0p_ := keepc hb1_ x0p_
  have y0p_ := keepc hb1_ y0p_
  have GH := hide (GH.out.below hb1_)
  have HE := hide (HE.out.below hb1_)
  have hB := bcall hB hb1_
  obtain ⟨wb2_, eb2_, hbb2_, hlt2_, -, x2_, y2_⟩ := box1 w1_ (.int .i64 n) (.slice A L c) 26
  have HEB2_ := hide eb2_
  clear eb2_
  have x0p_a := fun o => keepc (bal w1_ o) x0p_
  have y0p_a := fun o => keepc (bal w1_ o) y0p_
  have x0p_ := keepc hbb2_ x0p_
  have y0p_ := keepc hbb2_ y0p_
  have GH := hide (GH.out.below hbb2_)
  have HE := hide (HE.out.below hbb2_)
  have hB := bcall hB hbb2_
  go_wp2_with fail
  rw [HEB2_.out]
  clear x0p_a y0p_a
  (with_reducible refine (Dist_c n _ ls r _ hr GH.out HE.out _ rfl D hD.out k hDk.out).mono ?_)
  rintro e w3_ ⟨Aa, ca, rfl, pa1, pa2, HA, hb3_⟩
  have x0p_ := keepc hb3_ x0p_
  have y0p_ := keepc hb3_ y0p_
  have x2_ := keepc hb3_ x2_
  have y2_ := keepc hb3_ y2_
  have GH := hide (GH.out.below hb3_)
  have HE := hide (HE.out.below hb3_)
  have hB := bcall hB hb3_
  go_wp2_with fail
  (with_reducible refine (rDist_c n _ ls r _ hr GH.out hR.out D hD.out k hDk.out).mono ?_)
  rintro e w4_ ⟨Ab, cb, rfl, pb1, pb2, HBb, hb4_⟩
  have x0p_ := keepc hb4_ x0p_
  have y0p_ := keepc hb4_ y0p_
  have x2_ := keepc hb4_ x2_
  have y2_ := keepc hb4_ y2_
  have GH := hide (GH.out.below hb4_)
  have HE := hide (HE.out.below hb4_)
  have hB := bcall hB hb4_
  have HA := hide (HA.out.below hb4_)
  go_wp2_with fail
  go_loopw [11] (fun i wi => ∃ j : Nat, j ≤ k ∧ i = .int .i64 j ∧ Below w4_.heap.size w4_ wi) (fun i _ => k - (Go.RowKit.intOf i).toNat)
  case atStart => exact ⟨0, Nat.zero_le _, rfl, Below.refl _ _⟩
  case round =>
    obtain ⟨j, hj, rfl, hbj⟩ := hrel
    have x0p_ := keepc hbj x0p_
    have y0p_ := keepc hbj y0p_
    have x2_ := keepc hbj x2_
    have y2_ := keepc hbj y2_
    have GH := hide (GH.out.below hbj)
    have HE := hide (HE.out.below hbj)
    have hB := bcall hB hbj
    have HA := hide (HA.out.below hbj)
    have HBb := hide (HBb.out.below hbj)
    by_cases hlj : j < k
    · obtain ⟨ba, oa, rfl, -, hca⟩ := ints_all HA.out (by rw [hDk.out]; omega)
      obtain ⟨bb, ob, rfl, -, hcb⟩ := ints_all HBb.out (by rw [hDk.out]; omega)
      obtain ⟨x, hx⟩ : ∃ x, D[j]? = some x := ⟨_, List.getElem?_eq_getElem (by rw [hDk.out]; omega)⟩
      have ca1 := hca j x hx
      have cb1 := hcb j x hx
      have caq : ∀ p : BW wr, p.w.cell? ⟨ba, oa + j, none⟩ = some (.int .i64 x) := fun p => keepc p.b ca1
      have cbq : ∀ p : BW wr, p.w.cell? ⟨bb, ob + j, none⟩ = some (.int .i64 x) := fun p => keepc p.b cb1
      clear hca hcb hx
      go_wp2
      refine wp_region_below (by kernel_rfl) (by kernel_rfl) ?_
      repeat (go_big_quiet_step (fail))
      refine wpQuiet_nil ?_
      intro _ hw'
      obtain ⟨⟨wq, bq⟩, hw''⟩ := hw'
      subst hw''
      go_wp2
      go_roundw
      case rel => exact ⟨j + 1, by omega, by go_num, bcall hbj bq⟩
      case measure => simp [Go.RowKit.intOf]; omega
    · skip
      have HEq := hide (fun p : BW wr => HE.out.below p.b)
      have x0p_q : ∀ p : BW wr, p.w.cell? ⟨w.heap.size, 0, none⟩ = some (.int .i64 n) := fun p => keepc p.b x0p_
      have y0p_q : ∀ p : BW wr, p.w.cell? ⟨w.heap.size, 1, none⟩ = some (.slice A L c) := fun p => keepc p.b y0p_
      have x2_q : ∀ p : BW wr, p.w.cell? ⟨w1_.heap.size, 0, none⟩ = some (.int .i64 n) := fun p => keepc p.b x2_
      have y2_q : ∀ p : BW wr, p.w.cell? ⟨w1_.heap.size, 1, none⟩ = some (.slice A L c) := fun p => keepc p.b y2_
      have GHq := hide (fun p : BW wr => GH.out.below p.b)
      go_wp2
      refine wp_region_below (by kernel_rfl) (by kernel_rfl) ?_
      repeat (go_big_quiet_step (first | (with_reducible refine below_of (From_c n _ ls r _ hr (GHq.out _) (HEq.out _) _ rfl F hF.out)) | (with_reducible refine below_of (rFrom_c n _ ls r _ hr (GHq.out _) hR.out F hFr.out)) | (with_reducible refine below_of (Via_c n _ ls r o _ hr ho (GHq.out _) (HEq.out _) _ _ rfl rfl V hV.out)) | (with_reducible refine below_of (rVia_c n _ ls r o _ hr ho (GHq.out _) hR.out V hVr.out))))
      refine wpQuiet_nil ?_
      intro _ hw'
      obtain ⟨⟨wq_, bq_⟩, hw''⟩ := hw'
      subst hw''
      clear x0p_q y0p_q x2_q y2_q
      have hB := bcall hB bq_
      go_wp2
      go_ret
      exact ⟨rfl, hB⟩

set_option maxRecDepth 100000 in
theorem lifted (os : Os) (started : os.Started) (H : Type) (enc : TypeId × Value → H) :
    ReturnsInHanded {} Tryd.checked os 4 .any (fun w args => (Rows.reachTellsSpec.pre enc Tryd.prog Tryd.f4 Rows.reachTellsRow.domain false w args ∧ laidMetH Tryd.prog Rows.reachTellsRow.laid w) ∧ sizedMet enc Tryd.prog Tryd.f4 (OpenSpec.ofChange Rows.reachTellsSpec) false w args) (Rows.reachTellsSpec.post enc Tryd.prog Tryd.f4 false true false false) := by
  refine handed_and_shaped (C := Tryd.checked) (X := fun w _ => laidMetH Tryd.prog Rows.reachTellsRow.laid w) (fun _ _ _ hh h => h.of_heap hh) ownL started (by kernel_rfl) Tryd.func4
    (ChangeSpec.witness_shaped (enc := enc) (C := Tryd.checked) (os := os) (X := fun w _ => laidMetH Tryd.prog Rows.reachTellsRow.laid w) false (World.laidAll Tryd.prog os Rows.reachTellsRow.laid) #[.agg #[.int .i64 0, .slice none 0 0], .int .u64 0, .int .u64 0] 8 (World.laidAll_os _ _ _)
      (World.shaped_of_ZipB (by kernel_rfl) (by kernel_rfl)) (by kernel_rfl) (by kernel_rfl) (by kernel_rfl)
      (by rw [MakeChecks.laidMetH_plain _ _ _ (by kernel_rfl)]; exact laidMet_laidAll _ (by kernel_rfl) (by kernel_rfl))) ?_
  intro W base args ds gs before hval0 hW hsz0 hL hsh
  have hval : ∀ (j : Nat) t v, Tryd.f4.params[j]? = some t → args[j]? = some v → Value.okWide Tryd.prog W .any base t v := hval0
  have hW' := hW
  obtain ⟨p, q, hA0, hV, rfl, hfz, hnd⟩ := hW
  have hA : DataW.TrodAll enc Tryd.prog W 0 (fun _ => true) true Tryd.f4.params.toList args.toList ds p := hA0
  rw [Tryd.params4] at hA hval
  obtain ⟨v0, vs0, d0, ds0, p0, q0, hargs, rfl, rfl, h0, r0⟩ := trodAll_cons hA
  obtain ⟨v1, vs1, d1, ds1, p1, q1, rfl, rfl, rfl, h1, r1⟩ := trodAll_cons r0
  obtain ⟨v2, vs2, d2, ds2, p2, q2, rfl, rfl, rfl, h2, r2⟩ := trodAll_cons r1
  obtain ⟨rfl, rfl, rfl⟩ := trodAll_nil r2
  obtain rfl : args = #[v0, v1, v2] := by cases args; simp_all
  obtain ⟨rfl, rfl⟩ := trodVars_none hV
  obtain ⟨n0, u0, ls0, rfl, hg0, hn0, hr0, hf0⟩ := open_heap (hval 0 24 v0 rfl rfl) h0
  obtain ⟨a1, rfl, rfl, rfl, w1⟩ := open_int Tryd.underlying53 (hval 1 53 v1 rfl rfl) h1
  have hx1 : 0 ≤ a1 ∧ a1 ≤ 18446744073709551615 := by simpa [Lit.wf, IntKind.min, IntKind.max, IntKind.signed, IntKind.bits] using w1
  obtain ⟨n1, rfl⟩ : ∃ n : Nat, a1 = n := ⟨a1.toNat, by omega⟩
  obtain ⟨a2, rfl, rfl, rfl, w2⟩ := open_int Tryd.underlying53 (hval 2 53 v2 rfl rfl) h2
  have hx2 : 0 ≤ a2 ∧ a2 ≤ 18446744073709551615 := by simpa [Lit.wf, IntKind.min, IntKind.max, IntKind.signed, IntKind.bits] using w2
  obtain ⟨n2, rfl⟩ : ∃ n : Nat, a2 = n := ⟨a2.toNat, by omega⟩
  have hsz : (DataW.weightsEach Tryd.prog [24, 53, 53] ([d0, .lit (.int .u64 n1), .lit (.int .u64 n2)] : List (DataW H))).all (· ≤ reachBytes) = true := hsz0
  have e0 : Fit ls0 := hf0 fun k hk => by have h1 := List.all_eq_true.1 hsz k (DataW.weights_mem_each (j := 0) rfl rfl k hk); simpa [reachBytes] using of_decide_eq_true h1
  have hE := envT_of_laid hL
  refine (walk n0 _ ls0 n1 n2 W hg0 hr0 (by omega) (by omega) hE).mono fun e W' ⟨he, hg⟩ => ?_
  subst he
  exact ⟨_, rfl, law_post laidOutL (by kernel_rfl) rfl Tryd.underlying4 rfl ⟨rfl, rfl, rfl⟩ hW' hg⟩
theorem row_holds : Rows.ReachTellsSaid :=
  OpenClaim.holds_of_wide 4 Tryd.f4 rfl rfl rfl rfl rfl rfl rfl ⟨rfl, rfl, rfl, rfl, rfl⟩ rfl rfl rfl rfl rfl (by kernel_rfl) Tryd.func4 (by kernel_rfl)
    (of_decide_eq_true (by kernel_rfl)) (by unfold Func.isWrapper; first | (rw [if_pos (by decide +kernel)]; kernel_rfl) | (rw [if_neg (by decide +kernel)]; exact ⟨rfl, rfl⟩))
    (fun os started H enc _ => lifted os started H enc)

/-- THE STATEMENT -/
theorem proved : Rows.ReachTellsCardSaid :=
  Claim7.holds_tied_plain_at .later [] Rows.reachTellsCard.laidKinds true Rows.reachTellsCard.stood.harness Rows.reachTellsCard.stood.looks
    row_holds (fun _ h => by cases h) (by kernel_rfl) (fun _ h => by cases h) reachTells_row_tie rfl ⟨rfl, rfl⟩ (by kernel_rfl) rfl
    (fun f fn hf hfn => by
      obtain rfl : f = 4 := Option.some.inj ((show Tryd.prog.funcNamed Rows.reachTellsRow.func = some 4 by kernel_rfl).symm.trans hf) |>.symm
      obtain rfl : fn = Tryd.f4 := (Option.some.inj (Tryd.func4.symm.trans hfn)).symm
      exact ⟨by kernel_rfl, fun j t ht => by
        rw [Tryd.params4] at ht
        have hm : t ∈ [24, 53, 53] := by simpa using Array.mem_of_getElem? ht
        have hall : ([24, 53, 53].all fun u => !Tryd.prog.wantsStandIn u) = true := by kernel_rfl
        exact (show Tryd.prog.wantsStandIn t = false by simpa using List.all_eq_true.1 hall t hm)⟩)
    (by kernel_rfl)
end Go.Proofs.YtohfpcnekfpdkaaDoor.lawReachTells
