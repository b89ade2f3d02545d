/- PlanSame: of any two plans: to be the same is one. No condition beside the listed tables, which the card ties to the text. Written by tools/genplanlaw1.py. -/
import Derived.Test.YtjnokhaojpijhaaGreatDoorPbl
import Derived.Test.YtjnokhaojpijhaaGreatDoorPPlanSameW
import Derived.Test.YtjnokhaojpijhaaGreatDoorPPlanSameU
import Derived.Test.YtjnokhaojpijhaaGreatDoorPPlanSameV
import Derived.Test.YtjnokhaojpijhaaGreatDoorPPlanSameX
import Derived.Test.YtjnokhaojpijhaaGreatDoorPac
namespace Go.Proofs.YtjnokhaojpijhaaGreatDoor.lawPlanSame
open Go.RowKit Go.WideShapes Go.ChangeShapes Go.ChangeAt Go.Shelf Go.Proofs Go.Proofs.YtjnokhaojpijhaaGreatDoor
theorem walk (a b c d e f g h n : Int) (ob : Value) (s : Nat) (rg pg pk : Value) (lo lr : Rws) (lp : List (List Oq)) (lk : List PP) (a' b' c' d' e' f' g' h' n' : Int) (ob' : Value) (s' : Nat) (rg' pg' pk' : Value) (lo' lr' : Rws) (lp' : List (List Oq)) (lk' : List PP) (w : World)
    (hP : PlanR w ob rg pg pk ⟨a, b, c, d, e, f, g, h, n, lo, s, lr, lp, lk⟩) (hQ : PlanR w ob' rg' pg' pk' ⟨a', b', c', d', e', f', g', h', n', lo', s', lr', lp', lk'⟩) (hs : s < 18446744073709551616) (hs' : s' < 18446744073709551616) (hR : Rng lr) (hR' : Rng lr') (hE : EnvP w) :
    Calls Tryz.prog 6 #[planV a b c d e f g h n ob s rg pg pk, planV a' b' c' d' e' f' g' h' n' ob' s' rg' pg' pk'] w fun x w' => x = .returned (.bool true) ∧ Below w.heap.size w w' := by
  by_cases kn : (⟨a, b, c, d, e, f, g, h, n, lo, s, lr, lp, lk⟩ : Pq) = ⟨a', b', c', d', e', f', g', h', n', lo', s', lr', lp', lk'⟩
  · rw [Pq.mk.injEq] at kn
    obtain ⟨rfl, rfl, rfl, rfl, rfl, rfl, rfl, rfl, rfl, rfl, rfl, rfl, rfl, rfl⟩ := kn
    cases k1 : pRight ⟨a, b, c, d, e, f, g, h, n, lo, s, lr, lp, lk⟩
    · exact sameW_tf a b c d e f g h n ob s rg pg pk lo lr lp lk ob' rg' pg' pk' w hP hQ hs hR hE k1
    · exact sameW_tt a b c d e f g h n ob s rg pg pk lo lr lp lk ob' rg' pg' pk' w hP hQ hs hR hE k1
  · cases k1 : pRight ⟨a, b, c, d, e, f, g, h, n, lo, s, lr, lp, lk⟩
    · exact sameW_f0 a b c d e f g h n ob s rg pg pk lo lr lp lk a' b' c' d' e' f' g' h' n' ob' s' rg' pg' pk' lo' lr' lp' lk' w hP hQ hs hR hs' hR' hE k1 kn
    · cases k2 : pRight ⟨a', b', c', d', e', f', g', h', n', lo', s', lr', lp', lk'⟩
      · exact sameW_f1 a b c d e f g h n ob s rg pg pk lo lr lp lk a' b' c' d' e' f' g' h' n' ob' s' rg' pg' pk' lo' lr' lp' lk' w hP hQ hs hR hs' hR' hE k1 k2 kn
      · exact sameW_f2 a b c d e f g h n ob s rg pg pk lo lr lp lk a' b' c' d' e' f' g' h' n' ob' s' rg' pg' pk' lo' lr' lp' lk' w hP hQ hs hR hs' hR' hE k1 k2 kn
set_option maxRecDepth 100000 in
theorem lifted (os : Os) (started : os.Started) (H : Type) (enc : TypeId × Value → H) :
    ReturnsInHanded {} Tryz.checked os 6 .any (fun w args => (Rows.planSameSpec.pre enc Tryz.prog Tryz.f6 Rows.planSameRow.domain false w args ∧ laidMetH Tryz.prog Rows.planSameRow.laid w) ∧ sizedMet enc Tryz.prog Tryz.f6 (OpenSpec.ofChange Rows.planSameSpec) false w args) (Rows.planSameSpec.post enc Tryz.prog Tryz.f6 false true false false) := by
  refine handed_and_shaped (C := Tryz.checked) (X := fun w _ => laidMetH Tryz.prog Rows.planSameRow.laid w) (fun _ _ _ hh h => h.of_heap hh) ownL started (by kernel_rfl) Tryz.func6
    (ChangeSpec.witness_shaped (enc := enc) (C := Tryz.checked) (os := os) (X := fun w _ => laidMetH Tryz.prog Rows.planSameRow.laid w) false (World.laidAll Tryz.prog os Rows.planSameRow.laid) #[.agg #[.int .i64 0, .int .i64 0, .int .i64 0, .int .i64 0, .int .i64 0, .int .i64 0, .int .i64 0, .int .i64 0, .int .i64 0, .slice none 0 0, .int .u64 0, .slice none 0 0, .slice none 0 0, .slice none 0 0], .agg #[.int .i64 0, .int .i64 0, .int .i64 0, .int .i64 0, .int .i64 0, .int .i64 0, .int .i64 0, .int .i64 0, .int .i64 0, .slice none 0 0, .int .u64 0, .slice none 0 0, .slice none 0 0, .slice none 0 0]] 8 (World.laidAll_os _ _ _)
      (World.shaped_of_ZipB (by kernel_rfl) (by kernel_rfl)) (by kernel_rfl) (by kernel_rfl) (by kernel_rfl)
      (by rw [MakeChecks.laidMetH_plain _ _ _ (by kernel_rfl)]; exact laidMet_laidAll _ (by kernel_rfl) (by kernel_rfl))) ?_
  intro W base args ds gs before hval0 hW hsz0 hL hsh
  have hval : ∀ (j : Nat) t v, Tryz.f6.params[j]? = some t → args[j]? = some v → Value.okWide Tryz.prog W .any base t v := hval0
  have hW' := hW
  obtain ⟨p, q, hA0, hV, rfl, hfz, hnd⟩ := hW
  have hA : DataW.TrodAll enc Tryz.prog W 0 (fun _ => true) true Tryz.f6.params.toList args.toList ds p := hA0
  rw [Tryz.params6] at hA hval
  obtain ⟨v0, vs0, d0, ds0, p0, q0, hargs, rfl, rfl, h0, r0⟩ := trodAll_cons hA
  obtain ⟨v1, vs1, d1, ds1, p1, q1, rfl, rfl, rfl, h1, r1⟩ := trodAll_cons r0
  obtain ⟨rfl, rfl, rfl⟩ := trodAll_nil r1
  obtain rfl : args = #[v0, v1] := by cases args; simp_all
  obtain ⟨rfl, rfl⟩ := trodVars_none hV
  obtain ⟨na0, nb0, nc0, nd0, ne0, nf0, ng0, nh0, nn0, ob0, ns0, rg0, pg0, pk0, lo0, lr0, lp0, lk0, rfl, hP0, hs0, hRo0, hR0, hI0⟩ := open_plan (hval 0 30 v0 rfl rfl) h0
  obtain ⟨na1, nb1, nc1, nd1, ne1, nf1, ng1, nh1, nn1, ob1, ns1, rg1, pg1, pk1, lo1, lr1, lp1, lk1, rfl, hP1, hs1, hRo1, hR1, hI1⟩ := open_plan (hval 1 30 v1 rfl rfl) h1
  have hE := env_of_laidP hL hsh
  refine (walk na0 nb0 nc0 nd0 ne0 nf0 ng0 nh0 nn0 ob0 ns0 rg0 pg0 pk0 lo0 lr0 lp0 lk0 na1 nb1 nc1 nd1 ne1 nf1 ng1 nh1 nn1 ob1 ns1 rg1 pg1 pk1 lo1 lr1 lp1 lk1 W hP0 hP1 hs0 hs1 hR0 hR1 hE).mono fun e W' ⟨he, hg⟩ => ?_
  subst he
  exact ⟨_, rfl, law_post laidOutL (by kernel_rfl) rfl Tryz.underlying4 rfl ⟨rfl, rfl, rfl⟩ hW' hg⟩
theorem row_holds : Rows.PlanSameSaid :=
  OpenClaim.holds_of_wide 6 Tryz.f6 rfl rfl rfl rfl rfl rfl rfl ⟨rfl, rfl, rfl, rfl, rfl⟩ rfl rfl rfl rfl rfl (by kernel_rfl) Tryz.func6 (by kernel_rfl)
    (of_decide_eq_true (by kernel_rfl)) (by unfold Func.isWrapper; first | (rw [if_pos (by decide +kernel)]; kernel_rfl) | (rw [if_neg (by decide +kernel)]; exact ⟨rfl, rfl⟩))
    (fun os started H enc _ => lifted os started H enc)
/-- THE STATEMENT -/
theorem proved : Rows.PlanSameCardSaid :=
  Claim7.holds_tied_plain_at .later [] Rows.planSameCard.laidKinds true Rows.planSameCard.stood.harness Rows.planSameCard.stood.looks
    row_holds (fun _ h => by cases h) (by kernel_rfl) (fun _ h => by cases h) planSame_row_tie rfl ⟨rfl, rfl⟩ (by kernel_rfl) rfl
    (fun f fn hf hfn => by
      obtain rfl : f = 6 := Option.some.inj ((show Tryz.prog.funcNamed Rows.planSameRow.func = some 6 by kernel_rfl).symm.trans hf) |>.symm
      obtain rfl : fn = Tryz.f6 := (Option.some.inj (Tryz.func6.symm.trans hfn)).symm
      exact ⟨by kernel_rfl, fun j t ht => by
        rw [Tryz.params6] at ht
        have hm : t ∈ [30, 30] := by simpa using Array.mem_of_getElem? ht
        have hall : ([30, 30].all fun u => !Tryz.prog.wantsStandIn u) = true := by kernel_rfl
        exact (show Tryz.prog.wantsStandIn t = false by simpa using List.all_eq_true.1 hall t hm)⟩)
    (by kernel_rfl)
end Go.Proofs.YtjnokhaojpijhaaGreatDoor.lawPlanSame
