/- ReachGoes: for any heap and any two sets: what is reached from what is reached was reached; more roots reach no less, and together what each reaches. No condition beside the listed table, which the card ties to the text. -/
import Derived.Test.YtohfpcnekfpdkaaDoorReachTied
namespace Go.Proofs.YtohfpcnekfpdkaaDoor.lawReachGoes
open Go.RowKit Go.WideShapes Go.ChangeShapes Go.ChangeAt Go.Proofs Go.Proofs.YtohfpcnekfpdkaaDoor

set_option maxRecDepth 100000 in
set_option maxHeartbeats 8000000 in
theorem walk (n : Int) (vh : Value) (ls : Rws) (a b : Nat) (w : World) (hh : Grid w vh ls) (ha : a < 18446744073709551616) (hb : b < 18446744073709551616) (hE : EnvT w) :
    Calls Tryd.prog 6 #[hv n vh, .int .u64 a, .int .u64 b] w fun e w' => e = .returned (.bool true) ∧ Below w.heap.size w w' := by
  have GH := hide hh
  have HE := hide hE
  have hB : Below w.heap.size w w := Below.refl _ _
  have hab := lor_lt ha hb
  have hXl := from_lt ls ha
  have hYl := from_lt ls hb
  have h1 := from_idem ls ha
  have h2 := from_or ls ha hb
  obtain ⟨X, hX⟩ : ∃ X, fromF ls a = X := ⟨_, rfl⟩
  obtain ⟨Y, hY⟩ : ∃ X, fromF ls b = X := ⟨_, rfl⟩
  rw [hX] at hXl h1 h2
  rw [hY] at hYl h2
  have hXYl := lor_lt hXl hYl
  have hU := hide (under_left hXl hYl)
  have hX := hide (show ((fromF ls a : Nat) : Int) = X by rw [hX])
  have hY := hide (show ((fromF ls b : Nat) : Int) = Y by rw [hY])
  have hXX := hide (show ((fromF ls X : Nat) : Int) = X by rw [h1])
  have hXY := hide (show ((fromF ls (a ||| b) : Nat) : Int) = ((X ||| Y : Nat) : Int) by rw [h2])
  have hor := bits_or_u64_nat a b ha hb
  have horx := bits_or_u64_nat X Y hXl hYl
  clear hh hE h1 h2
  obtain ⟨wp0_, ep0_, hbp0_, hltp0_, -, x0p_, y0p_⟩ := box1 w (.int .i64 n) (vh) 24
  have HEP0_ := hide ep0_
  clear ep0_
  have GH := hide (GH.out.below hbp0_)
  have HE := hide (HE.out.below hbp0_)
  have hB := bcall hB hbp0_
  go_enter Tryd.func6, Tryd.ntmps6
  go_wp2_with fail
  rw [HEP0_.out]
  (with_reducible refine (examples_any _ HE.out).mono ?_)
  rintro e w0_ ⟨rfl, hb0_⟩
  have x0p_ := keepc hb0_ x0p_
  have y0p_ := keepc hb0_ y0p_
  have GH := hide (GH.out.below hb0_)
  have HE := hide (HE.out.below hb0_)
  have hB := bcall hB hb0_
  go_wp2_with fail
  (with_reducible refine (From_c n vh ls a _ ha GH.out HE.out _ rfl X hX.out).mono ?_)
  rintro e w1_ ⟨rfl, hb1_⟩
  have x0p_ := keepc hb1_ x0p_
  have y0p_ := keepc hb1_ y0p_
  have GH := hide (GH.out.below hb1_)
  have HE := hide (HE.out.below hb1_)
  have hB := bcall hB hb1_
  go_wp2_with fail
  (with_reducible refine (From_c n vh ls b _ hb GH.out HE.out _ rfl Y hY.out).mono ?_)
  rintro e w2_ ⟨rfl, hb2_⟩
  have x0p_ := keepc hb2_ x0p_
  have y0p_ := keepc hb2_ y0p_
  have GH := hide (GH.out.below hb2_)
  have HE := hide (HE.out.below hb2_)
  have hB := bcall hB hb2_
  go_wp2_with fail
  (with_reducible refine (From_c n vh ls X _ hXl GH.out HE.out _ rfl X hXX.out).mono ?_)
  rintro e w3_ ⟨rfl, hb3_⟩
  have x0p_ := keepc hb3_ x0p_
  have y0p_ := keepc hb3_ y0p_
  have GH := hide (GH.out.below hb3_)
  have HE := hide (HE.out.below hb3_)
  have hB := bcall hB hb3_
  go_wp2_with fail
  (with_reducible refine (From_c n vh ls (a ||| b) _ hab GH.out HE.out _ rfl (X ||| Y : Nat) hXY.out).mono ?_)
  rintro e w4_ ⟨rfl, hb4_⟩
  have x0p_ := keepc hb4_ x0p_
  have y0p_ := keepc hb4_ y0p_
  have GH := hide (GH.out.below hb4_)
  have HE := hide (HE.out.below hb4_)
  have hB := bcall hB hb4_
  go_wp2_with fail
  (with_reducible refine (From_c n vh ls (a ||| b) _ hab GH.out HE.out _ rfl (X ||| Y : Nat) hXY.out).mono ?_)
  rintro e w5_ ⟨rfl, hb5_⟩
  have x0p_ := keepc hb5_ x0p_
  have y0p_ := keepc hb5_ y0p_
  have GH := hide (GH.out.below hb5_)
  have HE := hide (HE.out.below hb5_)
  have hB := bcall hB hb5_
  go_wp2_with fail
  (with_reducible refine (Under_any X (X ||| Y) _ hXl hXYl).mono ?_)
  rintro e w6_ ⟨rfl, rfl⟩
  rw [hU.out]
  go_wp2
  go_ret
  exact ⟨rfl, hB⟩

set_option maxRecDepth 100000 in
theorem lifted (os : Os) (started : os.Started) (H : Type) (enc : TypeId × Value → H) :
    ReturnsInHanded {} Tryd.checked os 6 .any (fun w args => (Rows.reachGoesSpec.pre enc Tryd.prog Tryd.f6 Rows.reachGoesRow.domain false w args ∧ laidMetH Tryd.prog Rows.reachGoesRow.laid w) ∧ sizedMet enc Tryd.prog Tryd.f6 (OpenSpec.ofChange Rows.reachGoesSpec) false w args) (Rows.reachGoesSpec.post enc Tryd.prog Tryd.f6 false true false false) := by
  refine handed_and_shaped (C := Tryd.checked) (X := fun w _ => laidMetH Tryd.prog Rows.reachGoesRow.laid w) (fun _ _ _ hh h => h.of_heap hh) ownL started (by kernel_rfl) Tryd.func6
    (ChangeSpec.witness_shaped (enc := enc) (C := Tryd.checked) (os := os) (X := fun w _ => laidMetH Tryd.prog Rows.reachGoesRow.laid w) false (World.laidAll Tryd.prog os Rows.reachGoesRow.laid) #[.agg #[.int .i64 0, .slice none 0 0], .int .u64 0, .int .u64 0] 8 (World.laidAll_os _ _ _)
      (World.shaped_of_ZipB (by kernel_rfl) (by kernel_rfl)) (by kernel_rfl) (by kernel_rfl) (by kernel_rfl)
      (by rw [MakeChecks.laidMetH_plain _ _ _ (by kernel_rfl)]; exact laidMet_laidAll _ (by kernel_rfl) (by kernel_rfl))) ?_
  intro W base args ds gs before hval0 hW hsz0 hL hsh
  have hval : ∀ (j : Nat) t v, Tryd.f6.params[j]? = some t → args[j]? = some v → Value.okWide Tryd.prog W .any base t v := hval0
  have hW' := hW
  obtain ⟨p, q, hA0, hV, rfl, hfz, hnd⟩ := hW
  have hA : DataW.TrodAll enc Tryd.prog W 0 (fun _ => true) true Tryd.f6.params.toList args.toList ds p := hA0
  rw [Tryd.params6] at hA hval
  obtain ⟨v0, vs0, d0, ds0, p0, q0, hargs, rfl, rfl, h0, r0⟩ := trodAll_cons hA
  obtain ⟨v1, vs1, d1, ds1, p1, q1, rfl, rfl, rfl, h1, r1⟩ := trodAll_cons r0
  obtain ⟨v2, vs2, d2, ds2, p2, q2, rfl, rfl, rfl, h2, r2⟩ := trodAll_cons r1
  obtain ⟨rfl, rfl, rfl⟩ := trodAll_nil r2
  obtain rfl : args = #[v0, v1, v2] := by cases args; simp_all
  obtain ⟨rfl, rfl⟩ := trodVars_none hV
  obtain ⟨n0, u0, ls0, rfl, hg0, hn0, hr0, hf0⟩ := open_heap (hval 0 24 v0 rfl rfl) h0
  obtain ⟨a1, rfl, rfl, rfl, w1⟩ := open_int Tryd.underlying53 (hval 1 53 v1 rfl rfl) h1
  have hx1 : 0 ≤ a1 ∧ a1 ≤ 18446744073709551615 := by simpa [Lit.wf, IntKind.min, IntKind.max, IntKind.signed, IntKind.bits] using w1
  obtain ⟨n1, rfl⟩ : ∃ n : Nat, a1 = n := ⟨a1.toNat, by omega⟩
  obtain ⟨a2, rfl, rfl, rfl, w2⟩ := open_int Tryd.underlying53 (hval 2 53 v2 rfl rfl) h2
  have hx2 : 0 ≤ a2 ∧ a2 ≤ 18446744073709551615 := by simpa [Lit.wf, IntKind.min, IntKind.max, IntKind.signed, IntKind.bits] using w2
  obtain ⟨n2, rfl⟩ : ∃ n : Nat, a2 = n := ⟨a2.toNat, by omega⟩
  have hsz : (DataW.weightsEach Tryd.prog [24, 53, 53] ([d0, .lit (.int .u64 n1), .lit (.int .u64 n2)] : List (DataW H))).all (· ≤ reachBytes) = true := hsz0
  have e0 : Fit ls0 := hf0 fun k hk => by have h1 := List.all_eq_true.1 hsz k (DataW.weights_mem_each (j := 0) rfl rfl k hk); simpa [reachBytes] using of_decide_eq_true h1
  have hE := envT_of_laid hL
  refine (walk n0 _ ls0 n1 n2 W hg0 (by omega) (by omega) hE).mono fun e W' ⟨he, hg⟩ => ?_
  subst he
  exact ⟨_, rfl, law_post laidOutL (by kernel_rfl) rfl Tryd.underlying4 rfl ⟨rfl, rfl, rfl⟩ hW' hg⟩
theorem row_holds : Rows.ReachGoesSaid :=
  OpenClaim.holds_of_wide 6 Tryd.f6 rfl rfl rfl rfl rfl rfl rfl ⟨rfl, rfl, rfl, rfl, rfl⟩ rfl rfl rfl rfl rfl (by kernel_rfl) Tryd.func6 (by kernel_rfl)
    (of_decide_eq_true (by kernel_rfl)) (by unfold Func.isWrapper; first | (rw [if_pos (by decide +kernel)]; kernel_rfl) | (rw [if_neg (by decide +kernel)]; exact ⟨rfl, rfl⟩))
    (fun os started H enc _ => lifted os started H enc)

/-- THE STATEMENT -/
theorem proved : Rows.ReachGoesCardSaid :=
  Claim7.holds_tied_plain_at .later [] Rows.reachGoesCard.laidKinds true Rows.reachGoesCard.stood.harness Rows.reachGoesCard.stood.looks
    row_holds (fun _ h => by cases h) (by kernel_rfl) (fun _ h => by cases h) reachGoes_row_tie rfl ⟨rfl, rfl⟩ (by kernel_rfl) rfl
    (fun f fn hf hfn => by
      obtain rfl : f = 6 := Option.some.inj ((show Tryd.prog.funcNamed Rows.reachGoesRow.func = some 6 by kernel_rfl).symm.trans hf) |>.symm
      obtain rfl : fn = Tryd.f6 := (Option.some.inj (Tryd.func6.symm.trans hfn)).symm
      exact ⟨by kernel_rfl, fun j t ht => by
        rw [Tryd.params6] at ht
        have hm : t ∈ [24, 53, 53] := by simpa using Array.mem_of_getElem? ht
        have hall : ([24, 53, 53].all fun u => !Tryd.prog.wantsStandIn u) = true := by kernel_rfl
        exact (show Tryd.prog.wantsStandIn t = false by simpa using List.all_eq_true.1 hall t hm)⟩)
    (by kernel_rfl)
end Go.Proofs.YtohfpcnekfpdkaaDoor.lawReachGoes
