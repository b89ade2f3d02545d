/- SetFirst: for any number: the first so many objects are so many, and rise with it. No condition beside the listed tables, which the card ties to the text. -/
import Derived.Test.YtnodloeiabbliaaDoorSetTied
namespace Go.Proofs.YtnodloeiabbliaaDoor.lawFirst
open Go.RowKit Go.WideShapes Go.ChangeShapes Go.ChangeAt Go.Shelf Go.Proofs Go.Proofs.YtnodloeiabbliaaDoor

theorem cnt_first (n : Int) : cntF (firstF n) = (min (max n 0) 64).toNat := by
  unfold cntF objs
  rw [List.length_map]
  have e : ((List.range 64).filter fun i => (firstF n).testBit i) = (List.range 64).filter fun i => decide (i < (min (max n 0) 64).toNat) := by
    apply List.filter_congr
    intro i hi
    rw [first_bit]
    congr 1
    apply propext
    have := List.mem_range.1 hi
    omega
  have hk : (min (max n 0) 64).toNat ≤ 64 := by omega
  rw [e]
  generalize (min (max n 0) 64).toNat = k at hk
  have : ∀ k : Fin 65, ((List.range 64).filter fun i => decide (i < k.val)).length = k.val := by decide +kernel
  exact this ⟨k, by omega⟩
theorem under_first (n : Int) : underF (firstF n) (firstF (min n 1099511627776 + 1)) = true := by
  rw [under_iff (first_lt _) (first_lt _)]
  intro i hi h
  rw [first_bit, decide_eq_true_eq] at *
  omega
theorem has_many (n : Int) : hasF (firstF n) (min (max n 0) 64) = decide (min (max n 0) 64 > 0) := by
  rw [has_first]
  congr 1
  apply propext
  omega
theorem has_more (n : Int) : hasF (firstF n) (min (max n 0) 64 + 1) = false := by
  rw [has_first, decide_eq_false_iff_not]
  omega

set_option maxRecDepth 100000 in
set_option maxHeartbeats 8000000 in
theorem walk (n : Int) (w : World) (h0 : -9223372036854775808 ≤ n) (h1 : n ≤ 9223372036854775807) (hE : Env w) :
    Calls Tryd.prog 8 #[.int .i64 n] w fun e w' => e = .returned (.bool true) ∧ Below w.heap.size w w' := by
  have lF := first_lt n
  have C := hide (show ((cntF (firstF n) : Nat) : Int) = min (max n 0) 64 by rw [cnt_first]; omega)
  have U := hide (under_first n)
  have M := hide (has_many n)
  have M1 := hide (has_more n)
  go_enter Tryd.func8, Tryd.ntmps8
  go_wp2_with fail
  refine (examples_any _ hE).mono ?_
  rintro e w1 ⟨rfl, hb⟩
  go_wp2_with fail
  (with_reducible refine (First_any n _ h0 h1).mono ?_)
  rintro e w2 ⟨rfl, rfl⟩
  go_wp2_with fail
  (with_reducible refine (Count_any _ _ lF).mono ?_)
  rintro e w3 ⟨rfl, rfl⟩
  rw [C.out]
  go_wp2_with fail
  (with_reducible refine (Has_any _ _ _ lF (by omega) (by omega)).mono ?_)
  rintro e w4 ⟨rfl, rfl⟩
  rw [M.out]
  go_wp2_with fail
  · (with_reducible refine (Has_any _ _ _ lF (by omega) (by omega)).mono ?_)
    rintro e w5 ⟨rfl, rfl⟩
    rw [M1.out]
    go_wp2_with fail
    (with_reducible refine (First_any _ _ (by omega) (by omega)).mono ?_)
    rintro e w6 ⟨rfl, rfl⟩
    go_wp2_with fail
    (with_reducible refine (Under_any _ _ _ lF (first_lt _)).mono ?_)
    rintro e w7 ⟨rfl, rfl⟩
    rw [U.out]
    go_wp2
    go_ret
    exact ⟨rfl, hb⟩

set_option maxRecDepth 100000 in
theorem lifted (os : Os) (started : os.Started) (H : Type) (enc : TypeId × Value → H) :
    ReturnsInHanded {} Tryd.checked os 8 .any (fun w args => (Rows.setFirstSpec.pre enc Tryd.prog Tryd.f8 Rows.setFirstRow.domain false w args ∧ laidMetH Tryd.prog Rows.setFirstRow.laid w) ∧ sizedMet enc Tryd.prog Tryd.f8 (OpenSpec.ofChange Rows.setFirstSpec) false w args) (Rows.setFirstSpec.post enc Tryd.prog Tryd.f8 false true false false) := by
  refine handed_and_shaped (C := Tryd.checked) (X := fun w _ => laidMetH Tryd.prog Rows.setFirstRow.laid w) (fun _ _ _ hh h => h.of_heap hh) ownL started (by kernel_rfl) Tryd.func8
    (ChangeSpec.witness_shaped (enc := enc) (C := Tryd.checked) (os := os) (X := fun w _ => laidMetH Tryd.prog Rows.setFirstRow.laid w) false (World.laidAll Tryd.prog os Rows.setFirstRow.laid) #[.int .i64 0] 8 (World.laidAll_os _ _ _)
      (World.shaped_of_ZipB (by kernel_rfl) (by kernel_rfl)) (by kernel_rfl) (by kernel_rfl) (by kernel_rfl)
      (by rw [MakeChecks.laidMetH_plain _ _ _ (by kernel_rfl)]; exact laidMet_laidAll _ (by kernel_rfl) (by kernel_rfl))) ?_
  intro W base args ds gs before hval0 hW hsz0 hL hsh
  have hval : ∀ (j : Nat) t v, Tryd.f8.params[j]? = some t → args[j]? = some v → Value.okWide Tryd.prog W .any base t v := hval0
  have hW' := hW
  obtain ⟨p, q, hA0, hV, rfl, hfz, hnd⟩ := hW
  have hA : DataW.TrodAll enc Tryd.prog W 0 (fun _ => true) true Tryd.f8.params.toList args.toList ds p := hA0
  rw [Tryd.params8] at hA hval
  obtain ⟨v0, vs0, d0, ds0, p0, q0, hargs, rfl, rfl, h0, r0⟩ := trodAll_cons hA
  obtain ⟨rfl, rfl, rfl⟩ := trodAll_nil r0
  obtain rfl : args = #[v0] := by cases args; simp_all
  obtain ⟨rfl, rfl⟩ := trodVars_none hV
  obtain ⟨a0, rfl, rfl, rfl, w0⟩ := open_int Tryd.underlying3 (hval 0 3 v0 rfl rfl) h0
  have hx0 : -9223372036854775808 ≤ a0 ∧ a0 ≤ 9223372036854775807 := by simpa [Lit.wf, IntKind.min, IntKind.max, IntKind.signed, IntKind.bits] using w0
  have hE := env_of_laid hL hsh
  refine (walk a0 W hx0.1 hx0.2 hE).mono fun e W' ⟨he, hg⟩ => ?_
  subst he
  exact ⟨_, rfl, law_post laidOutL (by kernel_rfl) rfl Tryd.underlying4 rfl ⟨rfl, rfl, rfl⟩ hW' hg⟩
theorem row_holds : Rows.SetFirstSaid :=
  OpenClaim.holds_of_wide 8 Tryd.f8 rfl rfl rfl rfl rfl rfl rfl ⟨rfl, rfl, rfl, rfl, rfl⟩ rfl rfl rfl rfl rfl (by kernel_rfl) Tryd.func8 (by kernel_rfl)
    (of_decide_eq_true (by kernel_rfl)) (by unfold Func.isWrapper; first | (rw [if_pos (by decide +kernel)]; kernel_rfl) | (rw [if_neg (by decide +kernel)]; exact ⟨rfl, rfl⟩))
    (fun os started H enc _ => lifted os started H enc)

/-- THE STATEMENT -/
theorem proved : Rows.SetFirstCardSaid :=
  Claim7.holds_tied_plain_at .later [] Rows.setFirstCard.laidKinds true Rows.setFirstCard.stood.harness Rows.setFirstCard.stood.looks
    row_holds (fun _ h => by cases h) (by kernel_rfl) (fun _ h => by cases h) setFirst_row_tie rfl ⟨rfl, rfl⟩ (by kernel_rfl) rfl
    (fun f fn hf hfn => by
      obtain rfl : f = 8 := Option.some.inj ((show Tryd.prog.funcNamed Rows.setFirstRow.func = some 8 by kernel_rfl).symm.trans hf) |>.symm
      obtain rfl : fn = Tryd.f8 := (Option.some.inj (Tryd.func8.symm.trans hfn)).symm
      exact ⟨by kernel_rfl, fun j t ht => by
        rw [Tryd.params8] at ht
        have hm : t ∈ [3] := by simpa using Array.mem_of_getElem? ht
        have hall : ([3].all fun u => !Tryd.prog.wantsStandIn u) = true := by kernel_rfl
        exact (show Tryd.prog.wantsStandIn t = false by simpa using List.all_eq_true.1 hall t hm)⟩)
    (by kernel_rfl)
end Go.Proofs.YtnodloeiabbliaaDoor.lawFirst
