/- PlanTells: of any two plans, a text and a plan by bytes, all is told as the document's answer tells it. An UPTO card: up to the size that the row states; no condition but the listed tables, which the card ties. -/
import Derived.Deep.DeepHandedRow
import Derived.Test.YtjbaiibbgplljaaGreatDoorPca
set_option maxRecDepth 100000
set_option maxHeartbeats 40000000
namespace Go.Proofs.YtjbaiibbgplljaaGreatDoor.lawPlanTells
open Go.Proofs.Tryz
open Go.RowKit Go.WideShapes Go.ChangeShapes Go.ChangeAt Go.Shelf Go.Deep Go.Proofs Go.Proofs.YtjbaiibbgplljaaGreatDoor
abbrev inp : Input := ⟨#[], #[.agg #[.int .i64 0, .int .i64 0, .int .i64 0, .int .i64 0, .int .i64 0, .int .i64 0, .int .i64 0, .int .i64 0, .int .i64 0, .slice none 0 0, .int .u64 0, .slice none 0 0, .slice none 0 0, .slice none 0 0], .agg #[.int .i64 0, .int .i64 0, .int .i64 0, .int .i64 0, .int .i64 0, .int .i64 0, .int .i64 0, .int .i64 0, .int .i64 0, .slice none 0 0, .int .u64 0, .slice none 0 0, .slice none 0 0, .slice none 0 0], .string .empty, .slice none 0 0], []⟩
theorem laid_met (os : Os) : laidMetH prog Rows.planTellsUptoRow.laid ((World.laidAll prog os Rows.planTellsUptoRow.laid).forCall (fun _ _ => 0) inp).memory := by
 rw [MakeChecks.laidMetH_plain _ _ _ (by kernel_rfl)]; exact laidMet_laidAll _ (by kernel_rfl) (by kernel_rfl)
theorem reads (os : Os) {H : Type} (enc : TypeId × Value → H) : ∃ places, DataW.whole enc prog ((World.laidAll prog os Rows.planTellsUptoRow.laid).forCall (fun _ _ => 0) inp).memory Tryz.f3.params.toList Rows.planTellsSpec.vars false (#[.agg #[.int .i64 0, .int .i64 0, .int .i64 0, .int .i64 0, .int .i64 0, .int .i64 0, .int .i64 0, .int .i64 0, .int .i64 0, .slice none 0 0, .int .u64 0, .slice none 0 0, .slice none 0 0, .slice none 0 0], .agg #[.int .i64 0, .int .i64 0, .int .i64 0, .int .i64 0, .int .i64 0, .int .i64 0, .int .i64 0, .int .i64 0, .int .i64 0, .slice none 0 0, .int .u64 0, .slice none 0 0, .slice none 0 0, .slice none 0 0], .string .empty, .slice none 0 0] : Array Value).toList 8 = some ([.agg [.lit (.int .i64 0), .lit (.int .i64 0), .lit (.int .i64 0), .lit (.int .i64 0), .lit (.int .i64 0), .lit (.int .i64 0), .lit (.int .i64 0), .lit (.int .i64 0), .agg [.lit (.int .i64 0), .nil], .lit (.int .u64 0), .nil, .nil, .nil], .agg [.lit (.int .i64 0), .lit (.int .i64 0), .lit (.int .i64 0), .lit (.int .i64 0), .lit (.int .i64 0), .lit (.int .i64 0), .lit (.int .i64 0), .lit (.int .i64 0), .agg [.lit (.int .i64 0), .nil], .lit (.int .u64 0), .nil, .nil, .nil], .lit (.string []), .nil], [], places) :=
 ⟨[], by kernel_rfl⟩
theorem okargs (os : Os) : Input.okWideB prog ((World.laidAll prog os Rows.planTellsUptoRow.laid).forCall (fun _ _ => 0) inp) 3 inp = true := by kernel_rfl
theorem lifted (os : Os) (started : os.Started) (H : Type) (enc : TypeId × Value → H) (F : Stop.Interp) :
 ReturnsInHanded {} Tryz.checked os 3 .any ((Rows.OpenSpec.upto Rows.planTellsSpec).preRow enc prog Tryz.f3 Rows.planTellsUptoRow.domain false Rows.planTellsUptoRow.laid) (((Rows.OpenSpec.upto Rows.planTellsSpec).at F).post enc prog Tryz.f3 false true false false) := by
 obtain ⟨places, hx⟩ := reads os enc; refine returnsInHanded_of_row (C := Tryz.checked) (s := Rows.OpenSpec.upto Rows.planTellsSpec) ownL started (by kernel_rfl) func3
  ⟨World.laidAll prog os Rows.planTellsUptoRow.laid, fun _ _ => 0, ⟨#[], #[.agg #[.int .i64 0, .int .i64 0, .int .i64 0, .int .i64 0, .int .i64 0, .int .i64 0, .int .i64 0, .int .i64 0, .int .i64 0, .slice none 0 0, .int .u64 0, .slice none 0 0, .slice none 0 0, .slice none 0 0], .agg #[.int .i64 0, .int .i64 0, .int .i64 0, .int .i64 0, .int .i64 0, .int .i64 0, .int .i64 0, .int .i64 0, .int .i64 0, .slice none 0 0, .int .u64 0, .slice none 0 0, .slice none 0 0, .slice none 0 0], .string .empty, .slice none 0 0], []⟩, World.laidAll_os _ _ _, World.shaped_of_ZipB (by kernel_rfl) (by kernel_rfl), (Input.okWide_of_okWideB (base := 0) (okargs os)).1, (Input.okWide_of_okWideB (okargs os)).2,
   OpenSpec.preRow_of_cond 8 hx (by kernel_rfl) (fun k hk => by cases hk; kernel_rfl) (by kernel_rfl) (laid_met os), by
    simp only [Assume.holds]; exact ⟨by simp, by simp, by simp, by simp, by simp⟩⟩ ?_
 intro W base args ds gs before hval hW _ hcond hsz0 hL hsh _; have hk0 := hcond _ rfl; have hW' := hW; obtain ⟨p, q, hA0, hV, rfl, hfz, hnd⟩ := hW; have hA : DataW.TrodAll enc prog W 0 (fun _ => true) true Tryz.f3.params.toList args.toList ds p := hA0; rw [Tryz.params3] at hA hval; obtain ⟨v0, vs0, d0, ds0, p0, q0, hargs, rfl, rfl, h0, r0⟩ := trodAll_cons hA; obtain ⟨v1, vs1, d1, ds1, p1, q1, rfl, rfl, rfl, h1, r1⟩ := trodAll_cons r0; obtain ⟨v2, vs2, d2, ds2, p2, q2, rfl, rfl, rfl, h2, r2⟩ := trodAll_cons r1; obtain ⟨v3, vs3, d3, ds3, p3, q3, rfl, rfl, rfl, h3, r3⟩ := trodAll_cons r2; obtain ⟨rfl, rfl, rfl⟩ := trodAll_nil r3; obtain rfl : args = #[v0, v1, v2, v3] := by cases args; simp_all
 obtain ⟨rfl, rfl⟩ := trodVars_none hV; obtain ⟨na0, nb0, nc0, nd0, ne0, nf0, ng0, nh0, nn0, ob0, ns0, rg0, pg0, pk0, lo0, lr0, lp0, lk0, rfl, hP0, hs0, hRo0, hR0, hK0⟩ := open_plan_b (hval 0 30 v0 rfl rfl) h0; obtain ⟨na1, nb1, nc1, nd1, ne1, nf1, ng1, nh1, nn1, ob1, ns1, rg1, pg1, pk1, lo1, lr1, lp1, lk1, rfl, hP1, hs1, hRo1, hR1, hK1⟩ := open_plan_b (hval 1 30 v1 rfl rfl) h1; obtain ⟨s2, rfl, rfl, rfl, hs2⟩ := Go.ChangeMaps.open_string underlying9 (hval 2 9 v2 rfl rfl) h2; obtain ⟨l3, hl3, hq3, hd3⟩ := open_bytes (hval 3 31 v3 rfl rfl) h3; have hk : Rows.uptoBulkAll ([d0, d1, .lit (.string s2.data.toList), d3] : List (DataW H)) ≤ 1048576 := of_decide_eq_true hk0; have hsz : (DataW.weightsEach prog [30, 30, 9, 31] ([d0, d1, .lit (.string s2.data.toList), d3] : List (DataW H))).all (· ≤ reachBytes) = true := hsz0; have e2 : s2.size + 1 ≤ 1048576 := by have h1 : s2.data.toList.length = s2.size := (by rw [Array.length_toList]; rfl); have h2 := bulk_mem hk 2 rfl; simp only [Rows.uptoBulk] at h2; omega
 have e3 : l3.length + 1 ≤ 1048576 := by have h1 := slice_bulk hd3; have h2 := bulk_mem hk 3 rfl; omega
 have hsm0 : PSmall lp0 lk0 := by have h2 := bulk_mem hk 0 rfl; exact ⟨by have := hK0.pk; omega, fun l hl => by have := hK0.row l hl; omega, by have := hK0.pg; omega⟩
 have hsm1 : PSmall lp1 lk1 := by have h2 := bulk_mem hk 1 rfl; exact ⟨by have := hK1.pk; omega, fun l hl => by have := hK1.row l hl; omega, by have := hK1.pg; omega⟩
 have hE := env_of_laidT_ hL hsh; refine (tells_any na0 nb0 nc0 nd0 ne0 nf0 ng0 nh0 nn0 ob0 ns0 rg0 pg0 pk0 lo0 lr0 lp0 lk0 na1 nb1 nc1 nd1 ne1 nf1 ng1 nh1 nn1 ob1 ns1 rg1 pg1 pk1 lo1 lr1 lp1 lk1 s2 v3 l3 W hP0 hs0 hRo0 hR0 hsm0 hP1 hs1 hsm1 (by omega) hl3 hq3 hE).mono fun e W' ⟨he, hg⟩ => ?_
 subst he; exact ⟨_, rfl, law_post laidOutL (by kernel_rfl) rfl underlying4 rfl ⟨rfl, rfl, rfl⟩ hW' hg⟩
theorem row_holds : Rows.PlanTellsUptoSaid :=
 OpenClaim.holds_of_cond 3 Tryz.f3 rfl rfl rfl rfl rfl rfl rfl ⟨rfl, rfl, rfl, rfl, rfl⟩ rfl rfl rfl rfl rfl (by kernel_rfl) func3 (by kernel_rfl)
  (of_decide_eq_true (by kernel_rfl)) (by unfold Func.isWrapper; first | (rw [if_pos (by decide +kernel)]; kernel_rfl) | (rw [if_neg (by decide +kernel)]; exact ⟨rfl, rfl⟩))
  (fun os started H enc _ F => by rw [OpenClaim.pre_eq_preRow]; exact lifted os started H enc F)
theorem proved : Rows.PlanTellsUptoCardSaid :=
 Claim7.holds_tied_plain_at .later [] Rows.planTellsUptoCard.laidKinds true Rows.planTellsUptoCard.stood.harness Rows.planTellsUptoCard.stood.looks
  row_holds (fun _ h => by cases h) (by kernel_rfl) (fun _ h => by cases h) planTellsUpto_row_tie rfl ⟨rfl, rfl⟩ (by kernel_rfl) rfl
  (fun f fn hf hfn => by
   obtain rfl : f = 3 := Option.some.inj ((show prog.funcNamed Rows.planTellsUptoRow.func = some 3 by kernel_rfl).symm.trans hf) |>.symm
   obtain rfl : fn = Tryz.f3 := (Option.some.inj (func3.symm.trans hfn)).symm; exact ⟨by kernel_rfl, fun j t ht => by
    rw [Tryz.params3] at ht; have hm : t ∈ [30, 30, 9, 31] := by simpa using Array.mem_of_getElem? ht
    have hall : ([30, 30, 9, 31].all fun u => !prog.wantsStandIn u) = true := by kernel_rfl
    exact (show prog.wantsStandIn t = false by simpa using List.all_eq_true.1 hall t hm)⟩)
  (by kernel_rfl)
end Go.Proofs.YtjbaiibbgplljaaGreatDoor.lawPlanTells
