/- CodeWrites: of two programs one behind the other the writes are both's; none has more than it has ops. Where what comes in is of bulk at most 1048576. -/
import Derived.Test.YtffdgkofolomlaaDoorCodeSomeOpen
import Derived.Deep.DeepHandedRow
namespace Go.Proofs.YtffdgkofolomlaaDoor.lawCodeWrites
open Go.RowKit Go.WideShapes Go.ChangeShapes Go.ChangeAt Go.Deep Go.Proofs Go.Proofs.YtffdgkofolomlaaDoor

theorem oq_one : ∀ p : Oq, ∀ u ∈ oq p, u.oneCell' = true := fun p u hu => by
  simp only [oq, List.mem_cons, List.not_mem_nil, or_false] at hu
  rcases hu with rfl | rfl | rfl | rfl <;> rfl
set_option maxRecDepth 100000 in
set_option maxHeartbeats 8000000 in
theorem walk (v u : Value) (a b : List Oq) (ha : a.length ≤ 1048576) (hb : b.length ≤ 1048576) (w : World) (h : Oqs w v a) (h2 : Oqs w u b) : Calls Tryd.prog 8 #[v, u] w fun e w' => e = .returned (.bool true) ∧ Below w.heap.size w w' := by
  obtain ⟨i0, hi, hz0, hz1, hz2⟩ := info_parts infoCop
  have HA := hide h
  have HC := hide h2
  obtain ⟨A, c, rfl, hm1, hm2, -⟩ := id h
  obtain ⟨D, d, rfl, hm3, hm4, -⟩ := id h2
  unfold maxLen at hm2 hm4
  clear h h2
  obtain ⟨n1, e1⟩ : ∃ n, cWrites a = n := ⟨_, rfl⟩
  obtain ⟨n2, e2⟩ : ∃ n, cWrites b = n := ⟨_, rfl⟩
  have l1 := writes_le a
  have l2 := writes_le b
  have l3 := writes_app a b
  rw [e1, e2] at l3
  rw [e1] at l1
  rw [e2] at l2
  have E1 := hide e1
  have E2 := hide e2
  have E3 := hide l3
  clear e1 e2 l3
  have hB : Below w.heap.size w w := Below.refl _ _
  go_enter Tryd.func8, Tryd.ntmps8
  go_wp2_with fail
  (with_reducible refine (examples_any _).mono ?_)
  rintro e w1 ⟨rfl, hb1⟩
  replace HA := hide (HA.out.below hb1)
  replace HC := hide (HC.out.below hb1)
  replace hB := bcall hB hb1
  have hs1 := hb1.size
  clear hb1
  go_wp2_with (at_builtin; refine wpList_append_sl _ rfl (.const (.slice none 0 0)) _ 22 rfl w1.heap.size 24 i0 (.agg #[.int .i64 0, .int .i64 0, .int .i64 0, .int .i64 0]) 4 32 Tryd.underlying22 hi hz0 hz1 hz2 rfl (by decide) _ _ _ rfl (World.ownsRow_nil _ _ _ _) _ a rfl HA.out oq_len oq_one (by unfold maxLen; omega) (by omega) (Nat.le_refl _) ?_)
  intro v5 w5 ho5 hb5
  have HO5 := hide ho5
  have hs5 := hb5.size
  clear ho5
  obtain ⟨A5, c5, rfl, hc5, hd5⟩ := own_form HO5.out
  have HC5 := hide (HC.out.below hb5)
  go_wp2_with (at_builtin; refine wpList_append_sl _ rfl _ _ 22 rfl w1.heap.size 24 i0 (.agg #[.int .i64 0, .int .i64 0, .int .i64 0, .int .i64 0]) 4 32 Tryd.underlying22 hi hz0 hz1 hz2 rfl (by decide) _ _ _ rfl HO5.out _ b rfl HC5.out oq_len oq_one (by unfold maxLen; omega) (by omega) hs5 ?_)
  intro v6 w6 ho6 hb6
  have hs6 := hb6.size
  rw [← List.length_append, ← List.flatMap_append] at ho6
  obtain ⟨A6, c6, rfl, hc6, hd6⟩ := own_form ho6
  have HJ := hide (show Oqs w6 _ (a ++ b) from Sl.of_own oq_len ho6)
  clear ho6
  have hb16 : Below w1.heap.size w1 w6 := hb5.trans hb6
  replace HA := hide (HA.out.below hb16)
  replace HC := hide (HC.out.below hb16)
  replace hB := bcall hB hb16
  clear HC5 HO5 hb5 hb6 hb16
  obtain ⟨T, hT⟩ : ∃ T, (a ++ b).length = T := ⟨_, rfl⟩
  rw [hT] at HJ hc6 ⊢
  have HTT := hide hT
  clear hT
  go_wp2_with fail
  (with_reducible refine (Writes_c a a.length n1 _ _ rfl E1.out _ HA.out).mono ?_)
  rintro e w2 ⟨rfl, hb2⟩
  replace HA := hide (HA.out.below hb2)
  replace HC := hide (HC.out.below hb2)
  replace HJ := hide (HJ.out.below hb2)
  replace hB := bcall hB hb2
  have hs2 := hb2.size
  clear hb2
  go_wp2_with fail
  (with_reducible refine (Writes_c (a ++ b) T (n1 + n2) _ _ HTT.out E3.out _ HJ.out).mono ?_)
  rintro e w3 ⟨rfl, hb3⟩
  replace HA := hide (HA.out.below hb3)
  replace HC := hide (HC.out.below hb3)
  replace HJ := hide (HJ.out.below hb3)
  replace hB := bcall hB hb3
  have hs3 := hb3.size
  clear hb3
  go_wp2_with fail
  (with_reducible refine (Writes_c b b.length n2 _ _ rfl E2.out _ HC.out).mono ?_)
  rintro e w4 ⟨rfl, hb4⟩
  replace HA := hide (HA.out.below hb4)
  replace HC := hide (HC.out.below hb4)
  replace HJ := hide (HJ.out.below hb4)
  replace hB := bcall hB hb4
  have hs4 := hb4.size
  clear hb4
  go_wp2
  go_ret
  exact ⟨rfl, hB⟩

theorem laid_met (os : Os) : laidMetH Tryd.prog Rows.codeWritesUptoRow.laid ((World.laidAll Tryd.prog os Rows.codeWritesUptoRow.laid).forCall (fun _ _ => 0) ⟨#[], #[.slice none 0 0, .slice none 0 0], []⟩).memory := by
  rw [MakeChecks.laidMetH_plain _ _ _ (by kernel_rfl)]; exact laidMet_laidAll _ (by kernel_rfl) (by kernel_rfl)
theorem reads (os : Os) {H : Type} (enc : TypeId × Value → H) : ∃ places, DataW.whole enc Tryd.prog ((World.laidAll Tryd.prog os Rows.codeWritesUptoRow.laid).forCall (fun _ _ => 0) ⟨#[], #[.slice none 0 0, .slice none 0 0], []⟩).memory Tryd.f8.params.toList Rows.codeWritesSpec.vars false (#[.slice none 0 0, .slice none 0 0] : Array Value).toList 8 = some ([.nil, .nil], [], places) :=
  ⟨[], by kernel_rfl⟩
theorem okargs (os : Os) : Input.okWideB Tryd.prog ((World.laidAll Tryd.prog os Rows.codeWritesUptoRow.laid).forCall (fun _ _ => 0) ⟨#[], #[.slice none 0 0, .slice none 0 0], []⟩) 8 ⟨#[], #[.slice none 0 0, .slice none 0 0], []⟩ = true := by kernel_rfl
set_option maxRecDepth 100000 in
theorem lifted (os : Os) (started : os.Started) (H : Type) (enc : TypeId × Value → H) (F : Stop.Interp) :
    ReturnsInHanded {} Tryd.checked os 8 .any ((Rows.OpenSpec.upto Rows.codeWritesSpec).preRow enc Tryd.prog Tryd.f8 Rows.codeWritesUptoRow.domain false Rows.codeWritesUptoRow.laid) (((Rows.OpenSpec.upto Rows.codeWritesSpec).at F).post enc Tryd.prog Tryd.f8 false true false false) := by
  obtain ⟨places, hx⟩ := reads os enc
  refine returnsInHanded_of_row (C := Tryd.checked) (s := Rows.OpenSpec.upto Rows.codeWritesSpec) ownL started (by kernel_rfl) Tryd.func8
    ⟨World.laidAll Tryd.prog os Rows.codeWritesUptoRow.laid, fun _ _ => 0, ⟨#[], #[.slice none 0 0, .slice none 0 0], []⟩, World.laidAll_os _ _ _, World.shaped_of_ZipB (by kernel_rfl) (by kernel_rfl), (Input.okWide_of_okWideB (base := 0) (okargs os)).1, (Input.okWide_of_okWideB (okargs os)).2,
      OpenSpec.preRow_of_cond 8 hx (by kernel_rfl) (fun k hk => by cases hk; kernel_rfl) (by kernel_rfl) (laid_met os), by
        simp only [Assume.holds]
        exact ⟨by simp, by simp, by simp, by simp, by simp⟩⟩ ?_
  intro W base args ds gs before hval hW _ hcond hsz0 hL _ _
  have hk0 := hcond _ rfl
  have hW' := hW
  obtain ⟨p, q, hA0, hV, rfl, hfz, hnd⟩ := hW
  have hA : DataW.TrodAll enc Tryd.prog W 0 (fun _ => true) true Tryd.f8.params.toList args.toList ds p := hA0
  rw [Tryd.params8] at hA hval
  obtain ⟨v0, vs0, d0, ds0, p0, q0, hargs, rfl, rfl, h0, r0⟩ := trodAll_cons hA
  obtain ⟨v1, vs1, d1, ds1, p1, q1, rfl, rfl, rfl, h1, r1⟩ := trodAll_cons r0
  obtain ⟨rfl, rfl, rfl⟩ := trodAll_nil r1
  obtain rfl : args = #[v0, v1] := by cases args; simp_all
  obtain ⟨rfl, rfl⟩ := trodVars_none hV
  obtain ⟨l0, hl0, hq0, hd0⟩ := open_cops (hval 0 22 v0 rfl rfl) h0
  obtain ⟨l1, hl1, hq1, hd1⟩ := open_cops (hval 1 22 v1 rfl rfl) h1
  have hk : Rows.uptoBulkAll ([d0, d1] : List (DataW H)) ≤ 1048576 := of_decide_eq_true hk0
  have hsz : (DataW.weightsEach Tryd.prog [22, 22] ([d0, d1] : List (DataW H))).all (· ≤ reachBytes) = true := hsz0
  have e0 : l0.length + 1 ≤ 1048576 := by have h1 := slice_bulk hd0; have h2 := bulk_mem hk 0 rfl; omega
  have e1 : l1.length + 1 ≤ 1048576 := by have h1 := slice_bulk hd1; have h2 := bulk_mem hk 1 rfl; omega
  have hE := trivial
  refine (walk v0 v1 l0 l1 (by omega) (by omega) W hl0 hl1).mono fun e W' ⟨he, hg⟩ => ?_
  subst he
  exact ⟨_, rfl, law_post laidOutL (by kernel_rfl) rfl Tryd.underlying4 rfl ⟨rfl, rfl, rfl⟩ hW' hg⟩
theorem row_holds : Rows.CodeWritesUptoSaid :=
  OpenClaim.holds_of_cond 8 Tryd.f8 rfl rfl rfl rfl rfl rfl rfl ⟨rfl, rfl, rfl, rfl, rfl⟩ rfl rfl rfl rfl rfl (by kernel_rfl) Tryd.func8 (by kernel_rfl)
    (of_decide_eq_true (by kernel_rfl)) (by unfold Func.isWrapper; first | (rw [if_pos (by decide +kernel)]; kernel_rfl) | (rw [if_neg (by decide +kernel)]; exact ⟨rfl, rfl⟩))
    (fun os started H enc _ F => by rw [OpenClaim.pre_eq_preRow]; exact lifted os started H enc F)

/-- THE STATEMENT -/
theorem proved : Rows.CodeWritesUptoCardSaid :=
  Claim7.holds_tied_plain_at .later [] Rows.codeWritesUptoCard.laidKinds true Rows.codeWritesUptoCard.stood.harness Rows.codeWritesUptoCard.stood.looks
    row_holds (fun _ h => by cases h) (by kernel_rfl) (fun _ h => by cases h) codeWritesUpto_row_tie rfl ⟨rfl, rfl⟩ (by kernel_rfl) rfl
    (fun f fn hf hfn => by
      obtain rfl : f = 8 := Option.some.inj ((show Tryd.prog.funcNamed Rows.codeWritesUptoRow.func = some 8 by kernel_rfl).symm.trans hf) |>.symm
      obtain rfl : fn = Tryd.f8 := (Option.some.inj (Tryd.func8.symm.trans hfn)).symm
      exact ⟨by kernel_rfl, fun j t ht => by
        rw [Tryd.params8] at ht
        have hm : t ∈ [22, 22] := by simpa using Array.mem_of_getElem? ht
        have hall : ([22, 22].all fun u => !Tryd.prog.wantsStandIn u) = true := by kernel_rfl
        exact (show Tryd.prog.wantsStandIn t = false by simpa using List.all_eq_true.1 hall t hm)⟩)
    (by kernel_rfl)
end Go.Proofs.YtffdgkofolomlaaDoor.lawCodeWrites
