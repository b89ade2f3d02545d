/- PlanBack: a right plan comes back from its text, and a text that is read comes back from its plan's text. An UPTO card: up to the size that the row states; no condition beside the listed tables, which the card ties to the text. Written by tools/genplanback.py. -/
import Derived.Test.YtjnokhaojpijhaaGreatDoorPPlanBackW
import Derived.Test.YtjnokhaojpijhaaGreatDoorPbl
import Derived.Test.YtjnokhaojpijhaaGreatDoorPac
import Derived.Deep.DeepHandedRow
namespace Go.Proofs.YtjnokhaojpijhaaGreatDoor.lawPlanBack
open Go.RowKit Go.WideShapes Go.ChangeShapes Go.ChangeAt Go.Shelf Go.Deep Go.Proofs Go.Proofs.YtjnokhaojpijhaaGreatDoor
theorem laid_met (os : Os) : laidMetH Tryz.prog Rows.planBackUptoRow.laid ((World.laidAll Tryz.prog os Rows.planBackUptoRow.laid).forCall (fun _ _ => 0) ⟨#[], #[.agg #[.int .i64 0, .int .i64 0, .int .i64 0, .int .i64 0, .int .i64 0, .int .i64 0, .int .i64 0, .int .i64 0, .int .i64 0, .slice none 0 0, .int .u64 0, .slice none 0 0, .slice none 0 0, .slice none 0 0], .string .empty, .slice none 0 0, .slice none 0 0], []⟩).memory := by
  rw [MakeChecks.laidMetH_plain _ _ _ (by kernel_rfl)]; exact laidMet_laidAll _ (by kernel_rfl) (by kernel_rfl)
theorem reads (os : Os) {H : Type} (enc : TypeId × Value → H) : ∃ places, DataW.whole enc Tryz.prog ((World.laidAll Tryz.prog os Rows.planBackUptoRow.laid).forCall (fun _ _ => 0) ⟨#[], #[.agg #[.int .i64 0, .int .i64 0, .int .i64 0, .int .i64 0, .int .i64 0, .int .i64 0, .int .i64 0, .int .i64 0, .int .i64 0, .slice none 0 0, .int .u64 0, .slice none 0 0, .slice none 0 0, .slice none 0 0], .string .empty, .slice none 0 0, .slice none 0 0], []⟩).memory Tryz.f4.params.toList Rows.planBackSpec.vars false (#[.agg #[.int .i64 0, .int .i64 0, .int .i64 0, .int .i64 0, .int .i64 0, .int .i64 0, .int .i64 0, .int .i64 0, .int .i64 0, .slice none 0 0, .int .u64 0, .slice none 0 0, .slice none 0 0, .slice none 0 0], .string .empty, .slice none 0 0, .slice none 0 0] : Array Value).toList 8 = some ([.agg [.lit (.int .i64 0), .lit (.int .i64 0), .lit (.int .i64 0), .lit (.int .i64 0), .lit (.int .i64 0), .lit (.int .i64 0), .lit (.int .i64 0), .lit (.int .i64 0), .agg [.lit (.int .i64 0), .nil], .lit (.int .u64 0), .nil, .nil, .nil], .lit (.string []), .nil, .nil], [], places) :=
  ⟨[], by kernel_rfl⟩
theorem okargs (os : Os) : Input.okWideB Tryz.prog ((World.laidAll Tryz.prog os Rows.planBackUptoRow.laid).forCall (fun _ _ => 0) ⟨#[], #[.agg #[.int .i64 0, .int .i64 0, .int .i64 0, .int .i64 0, .int .i64 0, .int .i64 0, .int .i64 0, .int .i64 0, .int .i64 0, .slice none 0 0, .int .u64 0, .slice none 0 0, .slice none 0 0, .slice none 0 0], .string .empty, .slice none 0 0, .slice none 0 0], []⟩) 4 ⟨#[], #[.agg #[.int .i64 0, .int .i64 0, .int .i64 0, .int .i64 0, .int .i64 0, .int .i64 0, .int .i64 0, .int .i64 0, .int .i64 0, .slice none 0 0, .int .u64 0, .slice none 0 0, .slice none 0 0, .slice none 0 0], .string .empty, .slice none 0 0, .slice none 0 0], []⟩ = true := by kernel_rfl
set_option maxRecDepth 100000 in
theorem lifted (os : Os) (started : os.Started) (H : Type) (enc : TypeId × Value → H) (F : Stop.Interp) :
    ReturnsInHanded {} Tryz.checked os 4 .any ((Rows.OpenSpec.upto Rows.planBackSpec).preRow enc Tryz.prog Tryz.f4 Rows.planBackUptoRow.domain false Rows.planBackUptoRow.laid) (((Rows.OpenSpec.upto Rows.planBackSpec).at F).post enc Tryz.prog Tryz.f4 false true false false) := by
  obtain ⟨places, hx⟩ := reads os enc
  refine returnsInHanded_of_row (C := Tryz.checked) (s := Rows.OpenSpec.upto Rows.planBackSpec) ownL started (by kernel_rfl) Tryz.func4
    ⟨World.laidAll Tryz.prog os Rows.planBackUptoRow.laid, fun _ _ => 0, ⟨#[], #[.agg #[.int .i64 0, .int .i64 0, .int .i64 0, .int .i64 0, .int .i64 0, .int .i64 0, .int .i64 0, .int .i64 0, .int .i64 0, .slice none 0 0, .int .u64 0, .slice none 0 0, .slice none 0 0, .slice none 0 0], .string .empty, .slice none 0 0, .slice none 0 0], []⟩, World.laidAll_os _ _ _, World.shaped_of_ZipB (by kernel_rfl) (by kernel_rfl), (Input.okWide_of_okWideB (base := 0) (okargs os)).1, (Input.okWide_of_okWideB (okargs os)).2,
      OpenSpec.preRow_of_cond 8 hx (by kernel_rfl) (fun k hk => by cases hk; kernel_rfl) (by kernel_rfl) (laid_met os), by
        simp only [Assume.holds]
        exact ⟨by simp, by simp, by simp, by simp, by simp⟩⟩ ?_
  intro W base args ds gs before hval hW _ hcond hsz0 hL hsh _
  have hk0 := hcond _ rfl
  have hW' := hW
  obtain ⟨p, q, hA0, hV, rfl, hfz, hnd⟩ := hW
  have hA : DataW.TrodAll enc Tryz.prog W 0 (fun _ => true) true Tryz.f4.params.toList args.toList ds p := hA0
  rw [Tryz.params4] at hA hval
  obtain ⟨v0, vs0, d0, ds0, p0, q0, hargs, rfl, rfl, h0, r0⟩ := trodAll_cons hA
  obtain ⟨v1, vs1, d1, ds1, p1, q1, rfl, rfl, rfl, h1, r1⟩ := trodAll_cons r0
  obtain ⟨v2, vs2, d2, ds2, p2, q2, rfl, rfl, rfl, h2, r2⟩ := trodAll_cons r1
  obtain ⟨v3, vs3, d3, ds3, p3, q3, rfl, rfl, rfl, h3, r3⟩ := trodAll_cons r2
  obtain ⟨rfl, rfl, rfl⟩ := trodAll_nil r3
  obtain rfl : args = #[v0, v1, v2, v3] := by cases args; simp_all
  obtain ⟨rfl, rfl⟩ := trodVars_none hV
  obtain ⟨na0, nb0, nc0, nd0, ne0, nf0, ng0, nh0, nn0, ob0, ns0, rg0, pg0, pk0, lo0, lr0, lp0, lk0, rfl, hP0, hs0, hRo0, hR0, hI0⟩ := open_plan (hval 0 30 v0 rfl rfl) h0
  obtain ⟨s1, rfl, rfl, rfl, hs1⟩ := Go.ChangeMaps.open_string Tryz.underlying9 (hval 1 9 v1 rfl rfl) h1
  obtain ⟨l2, hl2, hq2, hd2⟩ := open_bytes (hval 2 31 v2 rfl rfl) h2
  obtain ⟨l3, hl3, hq3, hd3⟩ := open_bytes (hval 3 31 v3 rfl rfl) h3
  have hk : Rows.uptoBulkAll ([d0, .lit (.string s1.data.toList), d2, d3] : List (DataW H)) ≤ 1048576 := of_decide_eq_true hk0
  have hsz : (DataW.weightsEach Tryz.prog [30, 9, 31, 31] ([d0, .lit (.string s1.data.toList), d2, d3] : List (DataW H))).all (· ≤ reachBytes) = true := hsz0
  have e1 : s1.size + 1 ≤ 1048576 := by have h1 : s1.data.toList.length = s1.size := (by rw [Array.length_toList]; rfl); have h2 := bulk_mem hk 1 rfl; simp only [Rows.uptoBulk] at h2; omega
  have e2 : l2.length + 1 ≤ 1048576 := by have h1 := slice_bulk hd2; have h2 := bulk_mem hk 2 rfl; omega
  have e3 : l3.length + 1 ≤ 1048576 := by have h1 := slice_bulk hd3; have h2 := bulk_mem hk 3 rfl; omega
  have hE := env_of_laidP hL hsh
  refine (back_any na0 nb0 nc0 nd0 ne0 nf0 ng0 nh0 nn0 ob0 ns0 rg0 pg0 pk0 lo0 lr0 lp0 lk0 s1 v2 l2 v3 l3 W hP0 hs0 (by omega) hl2 hq2 hl3 hq3 hE).mono fun e W' ⟨he, hg⟩ => ?_
  subst he
  exact ⟨_, rfl, law_post laidOutL (by kernel_rfl) rfl Tryz.underlying4 rfl ⟨rfl, rfl, rfl⟩ hW' hg⟩
theorem row_holds : Rows.PlanBackUptoSaid :=
  OpenClaim.holds_of_cond 4 Tryz.f4 rfl rfl rfl rfl rfl rfl rfl ⟨rfl, rfl, rfl, rfl, rfl⟩ rfl rfl rfl rfl rfl (by kernel_rfl) Tryz.func4 (by kernel_rfl)
    (of_decide_eq_true (by kernel_rfl)) (by unfold Func.isWrapper; first | (rw [if_pos (by decide +kernel)]; kernel_rfl) | (rw [if_neg (by decide +kernel)]; exact ⟨rfl, rfl⟩))
    (fun os started H enc _ F => by rw [OpenClaim.pre_eq_preRow]; exact lifted os started H enc F)
/-- THE STATEMENT -/
theorem proved : Rows.PlanBackUptoCardSaid :=
  Claim7.holds_tied_plain_at .later [] Rows.planBackUptoCard.laidKinds true Rows.planBackUptoCard.stood.harness Rows.planBackUptoCard.stood.looks
    row_holds (fun _ h => by cases h) (by kernel_rfl) (fun _ h => by cases h) planBackUpto_row_tie rfl ⟨rfl, rfl⟩ (by kernel_rfl) rfl
    (fun f fn hf hfn => by
      obtain rfl : f = 4 := Option.some.inj ((show Tryz.prog.funcNamed Rows.planBackUptoRow.func = some 4 by kernel_rfl).symm.trans hf) |>.symm
      obtain rfl : fn = Tryz.f4 := (Option.some.inj (Tryz.func4.symm.trans hfn)).symm
      exact ⟨by kernel_rfl, fun j t ht => by
        rw [Tryz.params4] at ht
        have hm : t ∈ [30, 9, 31, 31] := by simpa using Array.mem_of_getElem? ht
        have hall : ([30, 9, 31, 31].all fun u => !Tryz.prog.wantsStandIn u) = true := by kernel_rfl
        exact (show Tryz.prog.wantsStandIn t = false by simpa using List.all_eq_true.1 hall t hm)⟩)
    (by kernel_rfl)
end Go.Proofs.YtjnokhaojpijhaaGreatDoor.lawPlanBack
