/- SetTurns: for any set and two numbers: what is added is there, what is taken out is not; others stay; both ways back. No condition beside the listed tables, which the card ties to the text. -/
import Derived.Test.YtnodloeiabbliaaDoorSetTied
import Derived.Test.YtnodloeiabbliaaDoorSetMore
namespace Go.Proofs.YtnodloeiabbliaaDoor.lawTurns
open Go.RowKit Go.WideShapes Go.ChangeShapes Go.ChangeAt Go.Shelf Go.Proofs Go.Proofs.YtnodloeiabbliaaDoor

set_option maxRecDepth 100000 in
set_option maxHeartbeats 8000000 in
theorem walk (s : Nat) (o p : Int) (w : World) (hs : s < 18446744073709551616) (ho : 0 ≤ o ∧ o ≤ 255) (hp : 0 ≤ p ∧ p ≤ 255) (hE : Env w) :
    Calls Tryd.prog 4 #[.int .u64 s, .int .u8 o, .int .u8 p] w fun e w' => e = .returned (.bool true) ∧ Below w.heap.size w w' := by
  have ha : 1 ≤ 1 + o % 64 ∧ 1 + o % 64 ≤ 64 := by omega
  have hb0 : 1 ≤ 1 + p % 64 ∧ 1 + p % 64 ≤ 64 := by omega
  obtain ⟨I, hI⟩ : ∃ I, addF s (1 + o % 64) = I := ⟨_, rfl⟩
  obtain ⟨O, hO⟩ : ∃ O, delF s (1 + o % 64) = O := ⟨_, rfl⟩
  have lI : I < 18446744073709551616 := by rw [← hI]; exact add_lt hs _
  have lO : O < 18446744073709551616 := by rw [← hO]; exact del_lt hs _
  have HI := hide hI
  have HO := hide hO
  have i1 := hide (show hasF I (1 + o % 64) = true by rw [← hI]; exact bit_in s hs _ ha)
  have o1 := hide (show hasF O (1 + o % 64) = false by rw [← hO]; exact bit_out s hs _ ha)
  have i2 := hide (show 1 + o % 64 ≠ 1 + p % 64 → hasF I (1 + p % 64) = hasF s (1 + p % 64) from fun h => by rw [← hI]; exact in_other s _ _ hb0 h)
  have o2 := hide (show 1 + o % 64 ≠ 1 + p % 64 → hasF O (1 + p % 64) = hasF s (1 + p % 64) from fun h => by rw [← hO]; exact out_other s hs _ _ hb0 h)
  have d1 := hide (show delF I (1 + o % 64) = O by rw [← hI, ← hO]; exact del_add s hs _)
  have a1 := hide (show addF O (1 + o % 64) = I by rw [← hI, ← hO]; exact add_del s hs _)
  have c1 := hide (show ((cntF I : Nat) : Int) = (cntF O : Nat) + 1 by rw [← hI, ← hO, cnt_one s hs _ ha]; omega)
  have c64 : ((cntF O : Nat) : Int) ≤ 64 := by have := objs_len O; unfold cntF; omega
  have hone : ((s : Int) == (I : Int)) = true ∨ (((s : Int) == (I : Int)) = false ∧ ((s : Int) == (O : Int)) = true) := by
    rw [← hI, ← hO]
    rcases one_of s hs _ ha with h | ⟨h1, h2⟩
    · exact .inl (by rw [← h]; simp)
    · exact .inr ⟨by rw [beq_eq_false_iff_ne]; omega, by rw [← h2]; simp⟩
  clear hI hO
  go_enter Tryd.func4, Tryd.ntmps4
  go_wp2_with fail
  refine (examples_any _ hE).mono ?_
  rintro e w1 ⟨rfl, hb⟩
  have hE := hide (hE.below hb)
  go_wp2_with fail
  (with_reducible refine (Add_any s _ _ hs (by omega) (by omega)).mono ?_)
  rintro e w2 ⟨rfl, rfl⟩
  rw [HI.out]
  go_wp2_with fail
  (with_reducible refine (Del_any s _ _ hs (by omega) (by omega)).mono ?_)
  rintro e w3 ⟨rfl, rfl⟩
  rw [HO.out]
  go_wp2_with fail
  (with_reducible refine (Has_any I _ _ lI (by omega) (by omega)).mono ?_)
  rintro e w4 ⟨rfl, rfl⟩
  rw [i1.out]
  go_wp2_with fail
  (with_reducible refine (Has_any O _ _ lO (by omega) (by omega)).mono ?_)
  rintro e w5 ⟨rfl, rfl⟩
  rw [o1.out]
  by_cases hab : 1 + o % 64 = 1 + p % 64
  · have q : ((1 + o % 64) != (1 + p % 64)) = false := by rw [bne_eq_false_iff_eq]; exact hab
    clear hab
    go_wp2_with fail
    (with_reducible refine (Del_any I _ _ lI (by omega) (by omega)).mono ?_)
    rintro e w6 ⟨rfl, rfl⟩
    rw [d1.out]
    go_wp2_with fail
    (with_reducible refine (Add_any O _ _ lO (by omega) (by omega)).mono ?_)
    rintro e w7 ⟨rfl, rfl⟩
    rw [a1.out]
    go_wp2_with fail
    (with_reducible refine (Count_any I _ lI).mono ?_)
    rintro e w8 ⟨rfl, rfl⟩
    rw [c1.out]
    go_wp2_with fail
    (with_reducible refine (Count_any O _ lO).mono ?_)
    rintro e w9 ⟨rfl, rfl⟩
    rcases hone with e1 | ⟨e1, e2⟩
    all_goals
      go_wp2
      go_ret
      exact ⟨rfl, hb⟩
  · have q : ((1 + o % 64) != (1 + p % 64)) = true := by rw [bne_iff_ne]; exact hab
    have i3 := hide (i2.out hab)
    have o3 := hide (o2.out hab)
    clear hab
    go_wp2_with fail
    (with_reducible refine (Has_any I _ _ lI (by omega) (by omega)).mono ?_)
    rintro e w10 ⟨rfl, rfl⟩
    rw [i3.out]
    go_wp2_with fail
    (with_reducible refine (Has_any s _ _ hs (by omega) (by omega)).mono ?_)
    rintro e w11 ⟨rfl, rfl⟩
    go_wp2_with fail
    (with_reducible refine (Has_any O _ _ lO (by omega) (by omega)).mono ?_)
    rintro e w12 ⟨rfl, rfl⟩
    rw [o3.out]
    go_wp2_with fail
    (with_reducible refine (Has_any s _ _ hs (by omega) (by omega)).mono ?_)
    rintro e w13 ⟨rfl, rfl⟩
    go_wp2_with fail
    (with_reducible refine (Del_any I _ _ lI (by omega) (by omega)).mono ?_)
    rintro e w14 ⟨rfl, rfl⟩
    rw [d1.out]
    go_wp2_with fail
    (with_reducible refine (Add_any O _ _ lO (by omega) (by omega)).mono ?_)
    rintro e w15 ⟨rfl, rfl⟩
    rw [a1.out]
    go_wp2_with fail
    (with_reducible refine (Count_any I _ lI).mono ?_)
    rintro e w16 ⟨rfl, rfl⟩
    rw [c1.out]
    go_wp2_with fail
    (with_reducible refine (Count_any O _ lO).mono ?_)
    rintro e w17 ⟨rfl, rfl⟩
    rcases hone with e1 | ⟨e1, e2⟩
    all_goals
      go_wp2
      go_ret
      exact ⟨rfl, hb⟩

set_option maxRecDepth 100000 in
theorem lifted (os : Os) (started : os.Started) (H : Type) (enc : TypeId × Value → H) :
    ReturnsInHanded {} Tryd.checked os 4 .any (fun w args => (Rows.setTurnsSpec.pre enc Tryd.prog Tryd.f4 Rows.setTurnsRow.domain false w args ∧ laidMetH Tryd.prog Rows.setTurnsRow.laid w) ∧ sizedMet enc Tryd.prog Tryd.f4 (OpenSpec.ofChange Rows.setTurnsSpec) false w args) (Rows.setTurnsSpec.post enc Tryd.prog Tryd.f4 false true false false) := by
  refine handed_and_shaped (C := Tryd.checked) (X := fun w _ => laidMetH Tryd.prog Rows.setTurnsRow.laid w) (fun _ _ _ hh h => h.of_heap hh) ownL started (by kernel_rfl) Tryd.func4
    (ChangeSpec.witness_shaped (enc := enc) (C := Tryd.checked) (os := os) (X := fun w _ => laidMetH Tryd.prog Rows.setTurnsRow.laid w) false (World.laidAll Tryd.prog os Rows.setTurnsRow.laid) #[.int .u64 0, .int .u8 0, .int .u8 0] 8 (World.laidAll_os _ _ _)
      (World.shaped_of_ZipB (by kernel_rfl) (by kernel_rfl)) (by kernel_rfl) (by kernel_rfl) (by kernel_rfl)
      (by rw [MakeChecks.laidMetH_plain _ _ _ (by kernel_rfl)]; exact laidMet_laidAll _ (by kernel_rfl) (by kernel_rfl))) ?_
  intro W base args ds gs before hval0 hW hsz0 hL hsh
  have hval : ∀ (j : Nat) t v, Tryd.f4.params[j]? = some t → args[j]? = some v → Value.okWide Tryd.prog W .any base t v := hval0
  have hW' := hW
  obtain ⟨p, q, hA0, hV, rfl, hfz, hnd⟩ := hW
  have hA : DataW.TrodAll enc Tryd.prog W 0 (fun _ => true) true Tryd.f4.params.toList args.toList ds p := hA0
  rw [Tryd.params4] at hA hval
  obtain ⟨v0, vs0, d0, ds0, p0, q0, hargs, rfl, rfl, h0, r0⟩ := trodAll_cons hA
  obtain ⟨v1, vs1, d1, ds1, p1, q1, rfl, rfl, rfl, h1, r1⟩ := trodAll_cons r0
  obtain ⟨v2, vs2, d2, ds2, p2, q2, rfl, rfl, rfl, h2, r2⟩ := trodAll_cons r1
  obtain ⟨rfl, rfl, rfl⟩ := trodAll_nil r2
  obtain rfl : args = #[v0, v1, v2] := by cases args; simp_all
  obtain ⟨rfl, rfl⟩ := trodVars_none hV
  obtain ⟨a0, rfl, rfl, rfl, w0⟩ := open_int Tryd.underlying23 (hval 0 23 v0 rfl rfl) h0
  have hx0 : 0 ≤ a0 ∧ a0 ≤ 18446744073709551615 := by simpa [Lit.wf, IntKind.min, IntKind.max, IntKind.signed, IntKind.bits] using w0
  obtain ⟨n0, rfl⟩ : ∃ n : Nat, a0 = n := ⟨a0.toNat, by omega⟩
  obtain ⟨a1, rfl, rfl, rfl, w1⟩ := open_int Tryd.underlying5 (hval 1 5 v1 rfl rfl) h1
  have hx1 : 0 ≤ a1 ∧ a1 ≤ 255 := by simpa [Lit.wf, IntKind.min, IntKind.max, IntKind.signed, IntKind.bits] using w1
  obtain ⟨a2, rfl, rfl, rfl, w2⟩ := open_int Tryd.underlying5 (hval 2 5 v2 rfl rfl) h2
  have hx2 : 0 ≤ a2 ∧ a2 ≤ 255 := by simpa [Lit.wf, IntKind.min, IntKind.max, IntKind.signed, IntKind.bits] using w2
  have hE := env_of_laid hL hsh
  refine (walk n0 a1 a2 W (by omega) hx1 hx2 hE).mono fun e W' ⟨he, hg⟩ => ?_
  subst he
  exact ⟨_, rfl, law_post laidOutL (by kernel_rfl) rfl Tryd.underlying4 rfl ⟨rfl, rfl, rfl⟩ hW' hg⟩
theorem row_holds : Rows.SetTurnsSaid :=
  OpenClaim.holds_of_wide 4 Tryd.f4 rfl rfl rfl rfl rfl rfl rfl ⟨rfl, rfl, rfl, rfl, rfl⟩ rfl rfl rfl rfl rfl (by kernel_rfl) Tryd.func4 (by kernel_rfl)
    (of_decide_eq_true (by kernel_rfl)) (by unfold Func.isWrapper; first | (rw [if_pos (by decide +kernel)]; kernel_rfl) | (rw [if_neg (by decide +kernel)]; exact ⟨rfl, rfl⟩))
    (fun os started H enc _ => lifted os started H enc)

/-- THE STATEMENT -/
theorem proved : Rows.SetTurnsCardSaid :=
  Claim7.holds_tied_plain_at .later [] Rows.setTurnsCard.laidKinds true Rows.setTurnsCard.stood.harness Rows.setTurnsCard.stood.looks
    row_holds (fun _ h => by cases h) (by kernel_rfl) (fun _ h => by cases h) setTurns_row_tie rfl ⟨rfl, rfl⟩ (by kernel_rfl) rfl
    (fun f fn hf hfn => by
      obtain rfl : f = 4 := Option.some.inj ((show Tryd.prog.funcNamed Rows.setTurnsRow.func = some 4 by kernel_rfl).symm.trans hf) |>.symm
      obtain rfl : fn = Tryd.f4 := (Option.some.inj (Tryd.func4.symm.trans hfn)).symm
      exact ⟨by kernel_rfl, fun j t ht => by
        rw [Tryd.params4] at ht
        have hm : t ∈ [23, 5, 5] := by simpa using Array.mem_of_getElem? ht
        have hall : ([23, 5, 5].all fun u => !Tryd.prog.wantsStandIn u) = true := by kernel_rfl
        exact (show Tryd.prog.wantsStandIn t = false by simpa using List.all_eq_true.1 hall t hm)⟩)
    (by kernel_rfl)
end Go.Proofs.YtnodloeiabbliaaDoor.lawTurns
