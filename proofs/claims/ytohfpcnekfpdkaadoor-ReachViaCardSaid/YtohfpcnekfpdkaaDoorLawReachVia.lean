/- ReachVia: for any heap, roots and two sets: by way of all it is what is reached; by way of more no less; what is gone by is told. No condition beside the listed table, which the card ties to the text. -/
import Derived.Test.YtohfpcnekfpdkaaDoorReachTied
import Derived.Test.YtohfpcnekfpdkaaDoorQuietB
namespace Go.Proofs.YtohfpcnekfpdkaaDoor.lawReachVia
open Go.RowKit Go.WideShapes Go.ChangeShapes Go.ChangeAt Go.Proofs Go.Proofs.YtohfpcnekfpdkaaDoor

theorem first64 : ((firstF 64 : Nat) : Int) = ((allN : Nat) : Int) := by rw [show firstF 64 = allN by decide]
theorem under_b (a b : Nat) (w : World) (ha : a < 18446744073709551616) (hb : b < 18446744073709551616) (u : Bool) (hu : underF a b = u) :
    Calls Tryd.prog 36 #[.int .u64 a, .int .u64 b] w fun e w' => e = .returned (.bool u) ∧ Below w.heap.size w w' := by
  subst hu
  exact (Under_any a b w ha hb).mono fun e w' ⟨h1, h2⟩ => ⟨h1, by rw [h2]; exact Below.refl _ _⟩
set_option maxRecDepth 100000 in
set_option maxHeartbeats 8000000 in
theorem walk (n : Int) (vh : Value) (ls : Rws) (r a b : Nat) (w : World) (hh : Grid w vh ls) (hr : r < 18446744073709551616) (ha : a < 18446744073709551616) (hb : b < 18446744073709551616) (hE : EnvT w) :
    Calls Tryd.prog 8 #[hv n vh, .int .u64 r, .int .u64 a, .int .u64 b] w fun e w' => e = .returned (.bool true) ∧ Below w.heap.size w w' := by
  have GH := hide hh
  have HE := hide hE
  have hB : Below w.heap.size w w := Below.refl _ _
  have hab := lor_lt ha hb
  have hra := land_lt a hr
  have habr := lor_lt hab hra
  obtain ⟨T, hT⟩ : ∃ T, allN = T := ⟨_, rfl⟩
  have hall : T < 18446744073709551616 := by rw [← hT]; decide
  have hF64 := hide (show ((firstF 64 : Nat) : Int) = (T : Int) by rw [first64, hT])
  have hXl := via_lt ls a hr
  have hVl := via_lt ls (a ||| b) hr
  have hFl := from_lt ls hr
  have h1 := via_all ls hr
  rw [hT] at h1
  clear hT
  have h2 := via_some ls (a := a) hr
  have h3 := via_or ls (r &&& a) (a ||| b)
  have hU1 := via_more ls (a := a) (b := b) hr
  have hU2 := via_from ls (a := a) hr
  obtain ⟨X, hX⟩ : ∃ X, viaF ls r a = X := ⟨_, rfl⟩
  obtain ⟨V, hV⟩ : ∃ X, viaF ls r (a ||| b) = X := ⟨_, rfl⟩
  obtain ⟨F, hF⟩ : ∃ X, fromF ls r = X := ⟨_, rfl⟩
  obtain ⟨Z, hZ⟩ : ∃ X, viaF ls (r &&& a) (a ||| b) = X := ⟨_, rfl⟩
  rw [hX] at hXl h2 hU1 hU2
  rw [hV] at hVl hU1
  rw [hF] at hFl h1 hU2
  rw [hZ] at h3
  have hxa := land_lt a hXl
  have hU1 := hide hU1
  have hU2 := hide hU2
  have hX := hide (show ((viaF ls r a : Nat) : Int) = X by rw [hX])
  have hV := hide (show ((viaF ls r (a ||| b) : Nat) : Int) = V by rw [hV])
  have hF := hide (show ((fromF ls r : Nat) : Int) = F by rw [hF])
  have hZ := hide (show ((viaF ls (r &&& a) (a ||| b) : Nat) : Int) = Z by rw [hZ])
  have hVA := hide (show ((viaF ls r T : Nat) : Int) = F by rw [h1])
  have hXX := hide (show ((viaF ls r (X &&& a) : Nat) : Int) = X by rw [h2])
  have hZ2 := hide (show ((viaF ls (r &&& a) ((a ||| b) ||| (r &&& a)) : Nat) : Int) = Z by rw [h3])
  have hor := bits_or_u64_nat a b ha hb
  have hand := bits_and_u64_nat r a hr ha
  have handx := bits_and_u64_nat X a hXl ha
  have hor3 := bits_or_u64_nat (a ||| b) (r &&& a) hab hra
  clear hh hE h1 h2 h3
  obtain ⟨wp0_, ep0_, hbp0_, hltp0_, -, x0p_, y0p_⟩ := box1 w (.int .i64 n) (vh) 24
  have HEP0_ := hide ep0_
  clear ep0_
  have GH := hide (GH.out.below hbp0_)
  have HE := hide (HE.out.below hbp0_)
  have hB := bcall hB hbp0_
  go_enter Tryd.func8, Tryd.ntmps8
  go_wp2_with fail
  rw [HEP0_.out]
  (with_reducible refine (examples_any _ HE.out).mono ?_)
  rintro e w0_ ⟨rfl, hb0_⟩
  have x0p_ := keepc hb0_ x0p_
  have y0p_ := keepc hb0_ y0p_
  have GH := hide (GH.out.below hb0_)
  have HE := hide (HE.out.below hb0_)
  have hB := bcall hB hb0_
  go_wp2_with fail
  (with_reducible refine (Via_c n vh ls r a _ hr ha GH.out HE.out _ _ rfl rfl X hX.out).mono ?_)
  rintro e w1_ ⟨rfl, hb1_⟩
  have x0p_ := keepc hb1_ x0p_
  have y0p_ := keepc hb1_ y0p_
  have GH := hide (GH.out.below hb1_)
  have HE := hide (HE.out.below hb1_)
  have hB := bcall hB hb1_
  go_wp2_with fail
  (with_reducible refine (First_any 64 _ (by omega) (by omega)).mono ?_)
  rintro e w2_ ⟨rfl, rfl⟩
  rw [hF64.out]
  have HEq := hide (fun p : BW w2_ => HE.out.below p.b)
  have x0p_q : ∀ p : BW w2_, p.w.cell? ⟨w.heap.size, 0, none⟩ = some (.int .i64 n) := fun p => keepc p.b x0p_
  have y0p_q : ∀ p : BW w2_, p.w.cell? ⟨w.heap.size, 1, none⟩ = some (vh) := fun p => keepc p.b y0p_
  have GHq := hide (fun p : BW w2_ => GH.out.below p.b)
  go_wp2
  refine wp_region_below (by kernel_rfl) (by kernel_rfl) ?_
  repeat (go_big_quiet_step (first | (with_reducible refine below_of (Via_c n vh ls r T _ hr hall (GHq.out _) (HEq.out _) _ _ rfl rfl F hVA.out)) | (with_reducible refine below_of (From_c n vh ls r _ hr (GHq.out _) (HEq.out _) _ rfl F hF.out)) | (with_reducible refine below_of (Via_c n vh ls r (a ||| b) _ hr hab (GHq.out _) (HEq.out _) _ _ rfl rfl V hV.out)) | (with_reducible refine below_of (Via_c n vh ls r (X &&& a) _ hr hxa (GHq.out _) (HEq.out _) _ _ rfl rfl X hXX.out)) | (with_reducible refine below_of (Via_c n vh ls (r &&& a) (a ||| b) _ hra hab (GHq.out _) (HEq.out _) _ _ rfl rfl Z hZ.out)) | (with_reducible refine below_of (Via_c n vh ls (r &&& a) ((a ||| b) ||| (r &&& a)) _ hra habr (GHq.out _) (HEq.out _) _ _ rfl rfl Z hZ2.out)) | (with_reducible refine below_of (under_b X V _ hXl hVl true hU1.out)) | (with_reducible refine below_of (under_b X F _ hXl hFl true hU2.out))))
  refine wpQuiet_nil ?_
  intro _ hw'
  obtain ⟨⟨wq_, bq_⟩, hw''⟩ := hw'
  subst hw''
  clear x0p_q y0p_q
  have hB := bcall hB bq_
  go_wp2
  go_ret
  exact ⟨rfl, hB⟩

set_option maxRecDepth 100000 in
theorem lifted (os : Os) (started : os.Started) (H : Type) (enc : TypeId × Value → H) :
    ReturnsInHanded {} Tryd.checked os 8 .any (fun w args => (Rows.reachViaSpec.pre enc Tryd.prog Tryd.f8 Rows.reachViaRow.domain false w args ∧ laidMetH Tryd.prog Rows.reachViaRow.laid w) ∧ sizedMet enc Tryd.prog Tryd.f8 (OpenSpec.ofChange Rows.reachViaSpec) false w args) (Rows.reachViaSpec.post enc Tryd.prog Tryd.f8 false true false false) := by
  refine handed_and_shaped (C := Tryd.checked) (X := fun w _ => laidMetH Tryd.prog Rows.reachViaRow.laid w) (fun _ _ _ hh h => h.of_heap hh) ownL started (by kernel_rfl) Tryd.func8
    (ChangeSpec.witness_shaped (enc := enc) (C := Tryd.checked) (os := os) (X := fun w _ => laidMetH Tryd.prog Rows.reachViaRow.laid w) false (World.laidAll Tryd.prog os Rows.reachViaRow.laid) #[.agg #[.int .i64 0, .slice none 0 0], .int .u64 0, .int .u64 0, .int .u64 0] 8 (World.laidAll_os _ _ _)
      (World.shaped_of_ZipB (by kernel_rfl) (by kernel_rfl)) (by kernel_rfl) (by kernel_rfl) (by kernel_rfl)
      (by rw [MakeChecks.laidMetH_plain _ _ _ (by kernel_rfl)]; exact laidMet_laidAll _ (by kernel_rfl) (by kernel_rfl))) ?_
  intro W base args ds gs before hval0 hW hsz0 hL hsh
  have hval : ∀ (j : Nat) t v, Tryd.f8.params[j]? = some t → args[j]? = some v → Value.okWide Tryd.prog W .any base t v := hval0
  have hW' := hW
  obtain ⟨p, q, hA0, hV, rfl, hfz, hnd⟩ := hW
  have hA : DataW.TrodAll enc Tryd.prog W 0 (fun _ => true) true Tryd.f8.params.toList args.toList ds p := hA0
  rw [Tryd.params8] at hA hval
  obtain ⟨v0, vs0, d0, ds0, p0, q0, hargs, rfl, rfl, h0, r0⟩ := trodAll_cons hA
  obtain ⟨v1, vs1, d1, ds1, p1, q1, rfl, rfl, rfl, h1, r1⟩ := trodAll_cons r0
  obtain ⟨v2, vs2, d2, ds2, p2, q2, rfl, rfl, rfl, h2, r2⟩ := trodAll_cons r1
  obtain ⟨v3, vs3, d3, ds3, p3, q3, rfl, rfl, rfl, h3, r3⟩ := trodAll_cons r2
  obtain ⟨rfl, rfl, rfl⟩ := trodAll_nil r3
  obtain rfl : args = #[v0, v1, v2, v3] := by cases args; simp_all
  obtain ⟨rfl, rfl⟩ := trodVars_none hV
  obtain ⟨n0, u0, ls0, rfl, hg0, hn0, hr0, hf0⟩ := open_heap (hval 0 24 v0 rfl rfl) h0
  obtain ⟨a1, rfl, rfl, rfl, w1⟩ := open_int Tryd.underlying53 (hval 1 53 v1 rfl rfl) h1
  have hx1 : 0 ≤ a1 ∧ a1 ≤ 18446744073709551615 := by simpa [Lit.wf, IntKind.min, IntKind.max, IntKind.signed, IntKind.bits] using w1
  obtain ⟨n1, rfl⟩ : ∃ n : Nat, a1 = n := ⟨a1.toNat, by omega⟩
  obtain ⟨a2, rfl, rfl, rfl, w2⟩ := open_int Tryd.underlying53 (hval 2 53 v2 rfl rfl) h2
  have hx2 : 0 ≤ a2 ∧ a2 ≤ 18446744073709551615 := by simpa [Lit.wf, IntKind.min, IntKind.max, IntKind.signed, IntKind.bits] using w2
  obtain ⟨n2, rfl⟩ : ∃ n : Nat, a2 = n := ⟨a2.toNat, by omega⟩
  obtain ⟨a3, rfl, rfl, rfl, w3⟩ := open_int Tryd.underlying53 (hval 3 53 v3 rfl rfl) h3
  have hx3 : 0 ≤ a3 ∧ a3 ≤ 18446744073709551615 := by simpa [Lit.wf, IntKind.min, IntKind.max, IntKind.signed, IntKind.bits] using w3
  obtain ⟨n3, rfl⟩ : ∃ n : Nat, a3 = n := ⟨a3.toNat, by omega⟩
  have hsz : (DataW.weightsEach Tryd.prog [24, 53, 53, 53] ([d0, .lit (.int .u64 n1), .lit (.int .u64 n2), .lit (.int .u64 n3)] : List (DataW H))).all (· ≤ reachBytes) = true := hsz0
  have e0 : Fit ls0 := hf0 fun k hk => by have h1 := List.all_eq_true.1 hsz k (DataW.weights_mem_each (j := 0) rfl rfl k hk); simpa [reachBytes] using of_decide_eq_true h1
  have hE := envT_of_laid hL
  refine (walk n0 _ ls0 n1 n2 n3 W hg0 (by omega) (by omega) (by omega) hE).mono fun e W' ⟨he, hg⟩ => ?_
  subst he
  exact ⟨_, rfl, law_post laidOutL (by kernel_rfl) rfl Tryd.underlying4 rfl ⟨rfl, rfl, rfl⟩ hW' hg⟩
theorem row_holds : Rows.ReachViaSaid :=
  OpenClaim.holds_of_wide 8 Tryd.f8 rfl rfl rfl rfl rfl rfl rfl ⟨rfl, rfl, rfl, rfl, rfl⟩ rfl rfl rfl rfl rfl (by kernel_rfl) Tryd.func8 (by kernel_rfl)
    (of_decide_eq_true (by kernel_rfl)) (by unfold Func.isWrapper; first | (rw [if_pos (by decide +kernel)]; kernel_rfl) | (rw [if_neg (by decide +kernel)]; exact ⟨rfl, rfl⟩))
    (fun os started H enc _ => lifted os started H enc)

/-- THE STATEMENT -/
theorem proved : Rows.ReachViaCardSaid :=
  Claim7.holds_tied_plain_at .later [] Rows.reachViaCard.laidKinds true Rows.reachViaCard.stood.harness Rows.reachViaCard.stood.looks
    row_holds (fun _ h => by cases h) (by kernel_rfl) (fun _ h => by cases h) reachVia_row_tie rfl ⟨rfl, rfl⟩ (by kernel_rfl) rfl
    (fun f fn hf hfn => by
      obtain rfl : f = 8 := Option.some.inj ((show Tryd.prog.funcNamed Rows.reachViaRow.func = some 8 by kernel_rfl).symm.trans hf) |>.symm
      obtain rfl : fn = Tryd.f8 := (Option.some.inj (Tryd.func8.symm.trans hfn)).symm
      exact ⟨by kernel_rfl, fun j t ht => by
        rw [Tryd.params8] at ht
        have hm : t ∈ [24, 53, 53, 53] := by simpa using Array.mem_of_getElem? ht
        have hall : ([24, 53, 53, 53].all fun u => !Tryd.prog.wantsStandIn u) = true := by kernel_rfl
        exact (show Tryd.prog.wantsStandIn t = false by simpa using List.all_eq_true.1 hall t hm)⟩)
    (by kernel_rfl)
end Go.Proofs.YtohfpcnekfpdkaaDoor.lawReachVia
