/- ChainVersions: for any schedule by bytes: each swap that is done makes the version of a head one more, and no other step does. No condition. -/
import Derived.Test.YtimjlgglhonhkaaChainEx
import Derived.Test.YtimjlgglhonhkaaChainLawP
import Derived.Deep.Cut
import Derived.Deep.QuietTactic
import Derived.BigQuiet
namespace Go.Proofs.Ytimjlgglhonhkaa.ch.lawChainVersions
open Go.RowKit Go.WideShapes Go.ChangeShapes Go.ChangeAt Go.Proofs Go.Proofs.Ytimjlgglhonhkaa

set_option maxRecDepth 100000 in
set_option maxHeartbeats 8000000 in
theorem walk (v : Value) (lb : List Int) (w : World) (h : Bytes w v lb) (hlb : ∀ p ∈ lb, 0 ≤ p ∧ p ≤ 255) : Calls Try.prog 6 #[v] w fun e w' => e = .returned (.bool true) ∧ Below w.heap.size w w' := by
  have hB : Below w.heap.size w w := Below.refl _ _
  obtain ⟨Ab, cb, rfl, hcb1, hcb2, -⟩ := id h
  unfold maxLen at hcb2
  have GB := hide h
  have HLB := hide hlb
  clear h hlb
  go_enter Try.func6, Try.ntmps6
  go_wp2_with fail
  (with_reducible refine (examples_any _).mono ?_)
  rintro e w0_ ⟨rfl, hb0_⟩
  replace hB := bcall hB hb0_
  have hs0_ := hb0_.size
  go_wp2_with fail
  (with_reducible refine (start_any _).mono ?_)
  rintro e w1_ ⟨A, c, g, gh, ct, cg, rfl, ⟨hc1, hc2⟩, ⟨ht1, ht2⟩, ⟨hh1, hh2⟩, hC, hT, hH, hb1_, hne, hgg, hlg, hlh⟩
  replace hB := bcall hB hb1_
  have hs1_ := hb1_.size
  obtain ⟨w3, e3⟩ : ∃ w3, w1_.alloc (.cells #[.slice A 10 c, .slice (some ⟨g, 0, none⟩) 5 ct, .slice (some ⟨gh, 0, none⟩) 5 cg, .int .i64 0] 64) = w3 := ⟨_, rfl⟩
  have HE3 := hide e3
  have hb3 : Below w1_.heap.size w1_ w3 := by rw [← e3]; exact bal _ _
  have HW := hide (start_wat hC hT hH hne hgg e3)
  have HST := hide (show SpAt w3 w1_.heap.size g gh ct cg 0 startCw (.slice A 10 c) w3 from ⟨HW.out, Fr.refl, start_good⟩)
  replace hB := bcall hB hb3
  have hfB : w.heap.size ≤ w1_.heap.size := by omega
  have hfg : w.heap.size ≤ g := by omega
  have hfh : w.heap.size ≤ gh := by omega
  have hf3 : w.heap.size ≤ w3.heap.size := hB.size
  clear e3 hC hT hH hne hb3 hb0_ hb1_ hlg hlh
  go_upto_region 5 with (fail)
  rw [HE3.out]
  go_wp2
  go_loopw [5] (fun iv wr => ∃ (X : Nat) (d : Cw) (vM : Value), X ≤ 300 ∧ iv = .int .i64 X ∧ Hid (SpAt w3 w1_.heap.size g gh ct cg X d vM wr)) (fun iv _ => 300 - (Go.RowKit.intOf iv).toNat)
  case atStart => exact ⟨0, startCw, _, Nat.zero_le _, rfl, HST⟩
  case round =>
    obtain ⟨X, d, vM, hX, rfl, HS⟩ := hrel
    have hBr : Below w.heap.size w wr := Fr.below hB HS.out.fr hf3 hfB hfg hfh
    have GBr := hide (GB.out.below hBr)
    by_cases hlt : X < lb.length
    · by_cases hm : X < 300
      · obtain ⟨bg, bo, rfl, d0⟩ := bytes_at GBr.out hlt
        have hy := HLB.out _ (List.getElem_mem hlt)
        obtain ⟨y, hyy⟩ : ∃ y, lb[X] = y := ⟨_, rfl⟩
        rw [hyy] at d0 hy
        clear hyy
        have hmi : (X : Int) < 300 := by omega
        obtain ⟨d', hd'⟩ : ∃ d', cstepW y.toNat d = d' := ⟨_, rfl⟩
        have HG := hide (show CGood (X + 1) d' by rw [← hd']; exact chain_good HS.out.good (by omega) _)
        have HDD := hide hd'
        clear hd'
        go_wp2_with fail
        (with_reducible refine (wstep_good w1_.heap.size g gh ct cg d vM _ HS.out.at_ X HS.out.good (by omega) y hy d' HDD.out).mono ?_)
        rintro e w5 ⟨vM', rfl, hW5, hF5⟩
        have HS5 := hide (show SpAt w3 w1_.heap.size g gh ct cg (X + 1) d' vM' w5 from ⟨hW5, HS.out.fr.trans hF5, HG.out⟩)
        clear hW5 hF5 d0
        have hv := good_vers HG.out (by omega)
        obtain ⟨hv1, hv2⟩ := hv
        obtain ⟨A5, c5, rfl, h51, h52⟩ := cells_form' HS5.out.at_.mem
        rw [hv1] at h51
        have hu := HS5.out.at_.mem
        obtain ⟨gb, ob, rfl, -, z0⟩ := cells_at hu (k := 0) (by rw [hv1]; decide)
        obtain ⟨gb', ob', e', -, z1⟩ := cells_at hu (k := 1) (by rw [hv1]; decide)
        injection e' with e'
        injection e' with e1' e2'
        subst e1' e2'
        rw [Nat.add_zero] at z0
        obtain ⟨y0, y1, y2, y3⟩ := world_cells HS5.out.at_
        rw [hv1] at y0
        obtain ⟨q0, hq0⟩ : ∃ q0, d'.m[0]'(by rw [hv1]; decide) = q0 := ⟨_, rfl⟩
        obtain ⟨q1, hq1⟩ : ∃ q1, d'.m[1]'(by rw [hv1]; decide) = q1 := ⟨_, rfl⟩
        rw [hq0] at z0
        rw [hq1] at z1
        have g0 : d'.m.getD 0 0 = q0 := by rw [List.getD_eq_getElem?_getD, List.getElem?_eq_getElem (by rw [hv1]; decide), ← hq0]; rfl
        have g1 : d'.m.getD 1 0 = q1 := by rw [List.getD_eq_getElem?_getD, List.getElem?_eq_getElem (by rw [hv1]; decide), ← hq1]; rfl
        rw [g0, g1] at hv2
        unfold verF at hv2
        obtain ⟨-, -, -, -, -, -, -, hsw⟩ := good_begin HG.out 0
        obtain ⟨sw, hsw0⟩ : ∃ sw, d'.swap = sw := ⟨_, rfl⟩
        rw [hsw0] at hv2 hsw y3
        have e1 : IntKind.u64.wrap (q0 / 4294967296 + q1 / 4294967296) = (sw : Int) := by rw [hv2, wrap_w]; exact w64_small (by omega) (by omega)
        have e2 : IntKind.u64.wrap (sw : Int) = (sw : Int) := by rw [wrap_w]; exact w64_small (by omega) (by omega)
        have e3 : ((sw : Int) != (sw : Int)) = false := by simp
        clear hv1 hv2 hq0 hq1 g0 g1 hu hsw0
        go_upto_region 9 with (fail)
        go_quiet (fail)
        go_wp2
        go_roundw
        case rel => exact ⟨X + 1, d', _, by omega, by go_num, hide ⟨HS5.out.at_.drewN _, HS5.out.fr.drewN _, HG.out⟩⟩
        case measure => simp [Go.RowKit.intOf]; omega
      · have hm' : ¬ (X : Int) < 300 := by omega
        go_wp2
        go_ret
        exact ⟨rfl, hBr⟩
    · have hlt' : ¬ (X : Int) < (lb.length : Int) := by omega
      go_wp2
      go_ret
      exact ⟨rfl, hBr⟩

set_option maxRecDepth 100000 in
theorem lifted (os : Os) (started : os.Started) (H : Type) (enc : TypeId × Value → H) :
    ReturnsInHanded {} Try.checked os 6 .any (Rows.chainVersionsSpec.pre6 enc Try.prog Try.f6 Rows.chainVersionsRow.domain false) (Rows.chainVersionsSpec.post enc Try.prog Try.f6 false true false false) := by
  refine returnsInHanded_of_change_sized (C := Try.checked) ownL started (by kernel_rfl) Try.func6
    (ChangeSpec.witness6 (enc := enc) (C := Try.checked) false ⟨#[], #[.slice none 0 0], []⟩ 8 (by kernel_rfl) (by kernel_rfl) (by kernel_rfl) (by kernel_rfl)) ?_
  intro W base args ds gs before hval hW _ hsz0 _
  have hW' := hW
  obtain ⟨p, q, hA0, hV, rfl, hfz, hnd⟩ := hW
  have hA : DataW.TrodAll enc Try.prog W 0 (fun _ => true) true Try.f6.params.toList args.toList ds p := hA0
  rw [Try.params6] at hA hval
  obtain ⟨v0, vs0, d0, ds0, p0, q0, hargs, rfl, rfl, h0, r0⟩ := trodAll_cons hA
  obtain ⟨rfl, rfl, rfl⟩ := trodAll_nil r0
  obtain rfl : args = #[v0] := by cases args; simp_all
  obtain ⟨rfl, rfl⟩ := trodVars_none hV
  obtain ⟨l0, hl0, hq0, hd0⟩ := open_bytes (hval 0 61 v0 rfl rfl) h0
  have hsz : (DataW.weightsEach Try.prog [61] ([d0] : List (DataW H))).all (· ≤ reachBytes) = true := hsz0
  have e0 : l0.length * 1 ≤ 140737488351232 := slice_reach hsz 0 rfl rfl Try.underlying61 (by kernel_rfl) hd0
  refine (walk v0 l0 W hl0 hq0).mono fun e W' ⟨he, hg⟩ => ?_
  subst he
  exact ⟨_, rfl, law_post laidOutL (by kernel_rfl) rfl Try.underlying4 rfl ⟨rfl, rfl, rfl⟩ hW' hg⟩

/-- THE STATEMENT -/
theorem proved : Rows.ChainVersionsSaid :=
  OpenClaim.holds_of_wide 6 Try.f6 rfl rfl rfl rfl rfl rfl rfl ⟨rfl, rfl, rfl, rfl, rfl⟩ rfl rfl rfl rfl rfl (by kernel_rfl) Try.func6 (by kernel_rfl)
    (of_decide_eq_true (by kernel_rfl)) (by unfold Func.isWrapper; first | (rw [if_pos (by decide +kernel)]; kernel_rfl) | (rw [if_neg (by decide +kernel)]; exact ⟨rfl, rfl⟩))
    (fun os started H enc _ => lifted os started H enc)
end Go.Proofs.Ytimjlgglhonhkaa.ch.lawChainVersions
