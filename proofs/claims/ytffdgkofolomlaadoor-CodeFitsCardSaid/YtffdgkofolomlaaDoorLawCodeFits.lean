/- CodeFits: ops fit just if each is right and they are not too many; with more registers and slots no fewer fit; beyond four no more. No condition. -/
import Derived.Test.YtffdgkofolomlaaDoorCodeSomeOpen
namespace Go.Proofs.YtffdgkofolomlaaDoor.lawCodeFits
open Go.RowKit Go.WideShapes Go.ChangeShapes Go.ChangeAt Go.Deep Go.Proofs Go.Proofs.YtffdgkofolomlaaDoor

/-- how far all are right -/
def BBf (l : List Oq) (n m : Int) (i : Nat) : Bool := decide (l.length ≤ 64) && (l.take i).all fun o => cRight o n m
theorem bb_next {l : List Oq} {n m : Int} {i : Nat} (h : i < l.length) : BBf l n m (i + 1) = (BBf l n m i && cRight l[i] n m) := by
  unfold BBf
  rw [cFits_take h, Bool.and_assoc]
theorem bb_end {l : List Oq} {n m : Int} {i : Nat} (h : l.length ≤ i) : BBf l n m i = cFits l n m := by
  unfold BBf cFits
  rw [List.take_of_length_le h, Bool.and_comm]
set_option maxRecDepth 100000 in
set_option maxHeartbeats 8000000 in
theorem walk (v : Value) (l : List Oq) (x y : Int) (hx : 0 ≤ x ∧ x ≤ 255) (hy : 0 ≤ y ∧ y ≤ 255) (w : World) (h : Oqs w v l) : Calls Tryd.prog 7 #[v, .int .u8 x, .int .u8 y] w fun e w' => e = .returned (.bool true) ∧ Below w.heap.size w w' := by
  have HO := hide h
  have h0 := hide h
  obtain ⟨A, c, rfl, hm1, hm2, -⟩ := id h
  unfold maxLen at hm2
  clear h
  obtain ⟨n, hn⟩ : ∃ n, x % 6 = n := ⟨_, rfl⟩
  obtain ⟨m, hm⟩ : ∃ m, y % 6 = m := ⟨_, rfl⟩
  have t1 : x.tmod 6 = n := by rw [Int.tmod_eq_emod_of_nonneg hx.1]; exact hn
  have t2 : y.tmod 6 = m := by rw [Int.tmod_eq_emod_of_nonneg hy.1]; exact hm
  have v1 := wr64 n (by omega) (by omega)
  have v2 := wr64 m (by omega) (by omega)
  have v3 := wr64 (n + 1) (by omega) (by omega)
  have v4 := wr64 (m + 1) (by omega) (by omega)
  clear hn hm hx hy
  have hB : Below w.heap.size w w := Below.refl _ _
  go_enter Tryd.func7, Tryd.ntmps7
  go_wp2_with fail
  (with_reducible refine (examples_any _).mono ?_)
  rintro e w1 ⟨rfl, hb1⟩
  replace HO := hide (HO.out.below hb1)
  replace hB := bcall hB hb1
  have hs1 := hb1.size
  clear hb1
  go_wp2
  go_loopw [10, 11] (fun av iv wr => ∃ i : Nat, i ≤ l.length ∧ iv = .int .i64 i ∧ av = .bool (BBf l n m i) ∧ Below w.heap.size w wr) (fun _ iv _ => l.length - (Go.RowKit.intOf iv).toNat)
  case atStart => exact ⟨0, Nat.zero_le _, rfl, by congr 1; unfold BBf; rw [List.take_zero, List.all_nil, Bool.and_true]; exact decide_eq_decide.2 (by omega), hB⟩
  case round =>
    obtain ⟨i, hi, rfl, rfl, hb⟩ := hrel
    have HO := hide (h0.out.below hb)
    by_cases hlt : i < l.length
    · obtain ⟨⟨kk, r, a, z⟩, hd⟩ : ∃ d : Oq, l[i] = d := ⟨_, rfl⟩
      obtain ⟨g, off, rfl, -, d0, d1, d2, d3⟩ := oq_at HO.out hlt hd
      have hT := bb_next (n := n) (m := m) hlt
      rw [hd] at hT
      obtain ⟨bb, hbb⟩ : ∃ bb, BBf l n m i = bb := ⟨_, rfl⟩
      rw [hbb] at hT ⊢
      have HT := hide hT
      clear hT hbb hd
      cases bb
      · have HN := hide (show BBf l n m (i + 1) = false by rw [HT.out]; rfl)
        go_wp2
        go_roundw
        case rel => exact ⟨i + 1, by omega, by go_num, by rw [HN.out], hb⟩
        case measure => simp [Go.RowKit.intOf]; omega
      · obtain ⟨q, hq⟩ : ∃ q, cRight ⟨kk, r, a, z⟩ n m = q := ⟨_, rfl⟩
        have HN := hide (show BBf l n m (i + 1) = q by rw [HT.out, hq]; rfl)
        have HQ := hide hq
        clear hq
        go_wp2_with fail
        (with_reducible refine (Right_c kk r a z n m q HQ.out _).mono ?_)
        rintro e w2 ⟨rfl, hb2⟩
        have hb := bcall hb hb2
        go_wp2
        go_roundw
        case rel => exact ⟨i + 1, by omega, by go_num, by rw [HN.out], hb⟩
        case measure => simp [Go.RowKit.intOf]; omega
    · obtain ⟨F, hF⟩ : ∃ F, cFits l n m = F := ⟨_, rfl⟩
      have HE := hide ((bb_end (n := n) (m := m) (show l.length ≤ i by omega)).trans hF)
      have HF := hide hF
      obtain ⟨G, hG⟩ : ∃ G, cFits l 4 4 = G := ⟨_, rfl⟩
      have HG := hide hG
      have HG9 := hide ((fits_cap l (n := 9) (m := 9) (by omega) (by omega)).trans hG)
      have hGG : (G == G) = true := by simp
      have hB := hb
      rw [HE.out]
      clear hG
      cases F
      · clear hF
        go_wp2_with fail
        (with_reducible refine (Fits_c l l.length n m false _ _ rfl HF.out _ HO.out).mono ?_)
        rintro e w1 ⟨rfl, hb1⟩
        replace HO := hide (HO.out.below hb1)
        replace hB := bcall hB hb1
        have hs1 := hb1.size
        clear hb1
        go_wp2_with fail
        (with_reducible refine (Fits_c l l.length 4 4 G _ _ rfl HG.out _ HO.out).mono ?_)
        rintro e w2 ⟨rfl, hb2⟩
        replace HO := hide (HO.out.below hb2)
        replace hB := bcall hB hb2
        have hs2 := hb2.size
        clear hb2
        go_wp2_with fail
        (with_reducible refine (Fits_c l l.length 9 9 G _ _ rfl HG9.out _ HO.out).mono ?_)
        rintro e w3 ⟨rfl, hb3⟩
        replace HO := hide (HO.out.below hb3)
        replace hB := bcall hB hb3
        have hs3 := hb3.size
        clear hb3
        go_wp2
        go_ret
        exact ⟨rfl, hB⟩
      · have HF1 := hide (fits_mono (n' := n + 1) (m' := m) (by omega) (by omega) hF)
        have HF2 := hide (fits_mono (n' := n) (m' := m + 1) (by omega) (by omega) hF)
        clear hF
        go_wp2_with fail
        (with_reducible refine (Fits_c l l.length n m true _ _ rfl HF.out _ HO.out).mono ?_)
        rintro e w1 ⟨rfl, hb1⟩
        replace HO := hide (HO.out.below hb1)
        replace hB := bcall hB hb1
        have hs1 := hb1.size
        clear hb1
        go_wp2_with fail
        (with_reducible refine (Fits_c l l.length (n + 1) m true _ _ rfl HF1.out _ HO.out).mono ?_)
        rintro e w2 ⟨rfl, hb2⟩
        replace HO := hide (HO.out.below hb2)
        replace hB := bcall hB hb2
        have hs2 := hb2.size
        clear hb2
        go_wp2_with fail
        (with_reducible refine (Fits_c l l.length n (m + 1) true _ _ rfl HF2.out _ HO.out).mono ?_)
        rintro e w3 ⟨rfl, hb3⟩
        replace HO := hide (HO.out.below hb3)
        replace hB := bcall hB hb3
        have hs3 := hb3.size
        clear hb3
        go_wp2_with fail
        (with_reducible refine (Fits_c l l.length 4 4 G _ _ rfl HG.out _ HO.out).mono ?_)
        rintro e w4 ⟨rfl, hb4⟩
        replace HO := hide (HO.out.below hb4)
        replace hB := bcall hB hb4
        have hs4 := hb4.size
        clear hb4
        go_wp2_with fail
        (with_reducible refine (Fits_c l l.length 9 9 G _ _ rfl HG9.out _ HO.out).mono ?_)
        rintro e w5 ⟨rfl, hb5⟩
        replace HO := hide (HO.out.below hb5)
        replace hB := bcall hB hb5
        have hs5 := hb5.size
        clear hb5
        go_wp2
        go_ret
        exact ⟨rfl, hB⟩

set_option maxRecDepth 100000 in
theorem lifted (os : Os) (started : os.Started) (H : Type) (enc : TypeId × Value → H) :
    ReturnsInHanded {} Tryd.checked os 7 .any (fun w args => (Rows.codeFitsSpec.pre enc Tryd.prog Tryd.f7 Rows.codeFitsRow.domain false w args ∧ laidMetH Tryd.prog Rows.codeFitsRow.laid w) ∧ sizedMet enc Tryd.prog Tryd.f7 (OpenSpec.ofChange Rows.codeFitsSpec) false w args) (Rows.codeFitsSpec.post enc Tryd.prog Tryd.f7 false true false false) := by
  refine handed_and_shaped (C := Tryd.checked) (X := fun w _ => laidMetH Tryd.prog Rows.codeFitsRow.laid w) (fun _ _ _ hh h => h.of_heap hh) ownL started (by kernel_rfl) Tryd.func7
    (ChangeSpec.witness_shaped (enc := enc) (C := Tryd.checked) (os := os) (X := fun w _ => laidMetH Tryd.prog Rows.codeFitsRow.laid w) false (World.laidAll Tryd.prog os Rows.codeFitsRow.laid) #[.slice none 0 0, .int .u8 0, .int .u8 0] 8 (World.laidAll_os _ _ _)
      (World.shaped_of_ZipB (by kernel_rfl) (by kernel_rfl)) (by kernel_rfl) (by kernel_rfl) (by kernel_rfl)
      (by rw [MakeChecks.laidMetH_plain _ _ _ (by kernel_rfl)]; exact laidMet_laidAll _ (by kernel_rfl) (by kernel_rfl))) ?_
  intro W base args ds gs before hval0 hW hsz0 hL hsh
  have hval : ∀ (j : Nat) t v, Tryd.f7.params[j]? = some t → args[j]? = some v → Value.okWide Tryd.prog W .any base t v := hval0
  have hW' := hW
  obtain ⟨p, q, hA0, hV, rfl, hfz, hnd⟩ := hW
  have hA : DataW.TrodAll enc Tryd.prog W 0 (fun _ => true) true Tryd.f7.params.toList args.toList ds p := hA0
  rw [Tryd.params7] at hA hval
  obtain ⟨v0, vs0, d0, ds0, p0, q0, hargs, rfl, rfl, h0, r0⟩ := trodAll_cons hA
  obtain ⟨v1, vs1, d1, ds1, p1, q1, rfl, rfl, rfl, h1, r1⟩ := trodAll_cons r0
  obtain ⟨v2, vs2, d2, ds2, p2, q2, rfl, rfl, rfl, h2, r2⟩ := trodAll_cons r1
  obtain ⟨rfl, rfl, rfl⟩ := trodAll_nil r2
  obtain rfl : args = #[v0, v1, v2] := by cases args; simp_all
  obtain ⟨rfl, rfl⟩ := trodVars_none hV
  obtain ⟨l0, hl0, hq0, hd0⟩ := open_cops (hval 0 22 v0 rfl rfl) h0
  obtain ⟨a1, rfl, rfl, rfl, w1⟩ := open_int Tryd.underlying5 (hval 1 5 v1 rfl rfl) h1
  have hx1 : 0 ≤ a1 ∧ a1 ≤ 255 := by simpa [Lit.wf, IntKind.min, IntKind.max, IntKind.signed, IntKind.bits] using w1
  obtain ⟨a2, rfl, rfl, rfl, w2⟩ := open_int Tryd.underlying5 (hval 2 5 v2 rfl rfl) h2
  have hx2 : 0 ≤ a2 ∧ a2 ≤ 255 := by simpa [Lit.wf, IntKind.min, IntKind.max, IntKind.signed, IntKind.bits] using w2
  have hsz : (DataW.weightsEach Tryd.prog [22, 5, 5] ([d0, .lit (.int .u8 a1), .lit (.int .u8 a2)] : List (DataW H))).all (· ≤ reachBytes) = true := hsz0
  have e0 : l0.length * 32 ≤ 140737488351232 := slice_reach hsz 0 rfl rfl Tryd.underlying22 (by kernel_rfl) hd0
  have hE := trivial
  refine (walk v0 l0 a1 a2 hx1 hx2 W hl0).mono fun e W' ⟨he, hg⟩ => ?_
  subst he
  exact ⟨_, rfl, law_post laidOutL (by kernel_rfl) rfl Tryd.underlying4 rfl ⟨rfl, rfl, rfl⟩ hW' hg⟩
theorem row_holds : Rows.CodeFitsSaid :=
  OpenClaim.holds_of_wide 7 Tryd.f7 rfl rfl rfl rfl rfl rfl rfl ⟨rfl, rfl, rfl, rfl, rfl⟩ rfl rfl rfl rfl rfl (by kernel_rfl) Tryd.func7 (by kernel_rfl)
    (of_decide_eq_true (by kernel_rfl)) (by unfold Func.isWrapper; first | (rw [if_pos (by decide +kernel)]; kernel_rfl) | (rw [if_neg (by decide +kernel)]; exact ⟨rfl, rfl⟩))
    (fun os started H enc _ => lifted os started H enc)

/-- THE STATEMENT -/
theorem proved : Rows.CodeFitsCardSaid :=
  Claim7.holds_tied_plain_at .later [] Rows.codeFitsCard.laidKinds true Rows.codeFitsCard.stood.harness Rows.codeFitsCard.stood.looks
    row_holds (fun _ h => by cases h) (by kernel_rfl) (fun _ h => by cases h) codeFits_row_tie rfl ⟨rfl, rfl⟩ (by kernel_rfl) rfl
    (fun f fn hf hfn => by
      obtain rfl : f = 7 := Option.some.inj ((show Tryd.prog.funcNamed Rows.codeFitsRow.func = some 7 by kernel_rfl).symm.trans hf) |>.symm
      obtain rfl : fn = Tryd.f7 := (Option.some.inj (Tryd.func7.symm.trans hfn)).symm
      exact ⟨by kernel_rfl, fun j t ht => by
        rw [Tryd.params7] at ht
        have hm : t ∈ [22, 5, 5] := by simpa using Array.mem_of_getElem? ht
        have hall : ([22, 5, 5].all fun u => !Tryd.prog.wantsStandIn u) = true := by kernel_rfl
        exact (show Tryd.prog.wantsStandIn t = false by simpa using List.all_eq_true.1 hall t hm)⟩)
    (by kernel_rfl)
end Go.Proofs.YtffdgkofolomlaaDoor.lawCodeFits
