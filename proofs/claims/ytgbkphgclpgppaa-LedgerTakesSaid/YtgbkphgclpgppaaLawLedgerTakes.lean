/- LedgerTakes: of any deeds: what is taken comes out of the pool into the balance, no more than is asked for, and no more than there is. No condition. -/
import Derived.Test.YtgbkphgclpgppaaLedgerOpen
import Derived.Deep.Cut
import Derived.StillTailTactics
namespace Go.Proofs.Ytgbkphgclpgppaa.lawLedgerTakes
open Go.RowKit Go.WideShapes Go.ChangeShapes Go.ChangeAt Go.Proofs Go.Proofs.Ytgbkphgclpgppaa

set_option maxRecDepth 100000 in
set_option maxHeartbeats 8000000 in
theorem walk (v : Value) (ds : List Dg) (hU : ∀ d ∈ ds, DgU d) (who want : Int) (hwho : 0 ≤ who ∧ who ≤ 255) (hwant : 0 ≤ want ∧ want ≤ 255) (w : World) (h : Dgs w v ds) :
    Calls Try.prog 7 #[v, .int .u8 who, .int .u8 want] w fun e w' => e = .returned (.bool true) ∧ Below w.heap.size w w' := by
  obtain ⟨j, hj⟩ : ∃ j : Nat, who % 3 = (j : Int) := ⟨(who % 3).toNat, by omega⟩
  have hj3 : j < 3 := by omega
  have tj := tm (x := who) hwho 3
  rw [hj] at tj
  clear hj
  have hB : Below w.heap.size w w := Below.refl _ _
  have HD := hide h
  have HU := hide hU
  obtain ⟨D0, dcap, rfl, hd1, hd2, -⟩ := id h
  unfold maxLen at hd2
  clear h hU
  go_enter Try.func7, Try.ntmps7
  go_wp2_with fail
  (with_reducible refine (examples_any _).mono ?_)
  rintro e w1 ⟨rfl, hb1⟩
  replace hB := bcall hB hb1
  have hs1 := hb1.size
  clear hb1
  go_wp2_with fail
  (with_reducible refine (New_c 3 [0, 0, 0] 3 rfl rfl _).mono ?_)
  rintro e w2 ⟨A2, c2, rfl, p2, GN, hb2⟩
  replace hB := bcall hB hb2
  have hs2 := hb2.size
  clear hb2
  have GN := hide GN
  obtain ⟨w3, e3, hb3, hs3, BX⟩ := lbox w2 (0) (0) (0) (.slice A2 3 c2) 24
  have HE3 := hide e3
  have BX := hide BX
  clear e3
  replace GN := hide (GN.out.below hb3)
  replace hB := bcall hB hb3
  clear hb3
  go_upto_region 5 with (fail)
  rw [HE3.out]
  have HX := hide (show XAt w w2.heap.size 0 0 0 (.slice A2 3 c2) (List.replicate 3 0) w3 from ⟨BX.out, GN.out, hB, by omega⟩)
  obtain ⟨B, hBB⟩ : ∃ B, w2.heap.size = B := ⟨_, rfl⟩
  rw [hBB] at HX ⊢
  clear BX GN hB
  go_wp2
  go_loopw [9] (fun iv wr => ∃ (X : Nat) (a b c : Int) (l : List Int) (A : Option Addr) (n : Nat), X ≤ ds.length ∧ X ≤ 100 ∧ iv = .int .i64 X ∧ (3 ≤ n ∧ n ≤ 9223372036854775807) ∧ Hid (XAt w B a b c (.slice A 3 n) l wr) ∧ Hid (At 3 ds X a b c l)) (fun iv _ => 100 - (Go.RowKit.intOf iv).toNat)
  case atStart => exact ⟨0, 0, 0, 0, _, A2, c2, Nat.zero_le _, Nat.zero_le _, rfl, p2, HX, hide (At.start (by omega) ds)⟩
  clear HX p2
  case round =>
    obtain ⟨X, a, b, c, l, A, n, hX1, hX2, rfl, ⟨hn1, hn2⟩, HX, HA⟩ := hrel
    have HD1 := hide (HD.out.below HX.out.b)
    by_cases hlt : X < ds.length
    · by_cases h3 : X < 100
      · obtain ⟨⟨k, x, y, q⟩, hd⟩ : ∃ d : Dg, ds[X] = d := ⟨_, rfl⟩
        have hu : DgU ⟨k, x, y, q⟩ := by rw [← hd]; exact HU.out _ (List.getElem_mem hlt)
        have HUU := hide hu
        clear hu
        obtain ⟨g, off, rfl, hg, d0, d1, d2, d3⟩ := dg_at HD1.out hlt hd
        obtain ⟨⟨a1, b1, c1, l1⟩, hR⟩ : ∃ R, lDo ⟨a, b, c, l⟩ k x y q = R := ⟨_, rfl⟩
        have HA1 := hide (HA.out.next hlt hd hR)
        have HI0 := hide (HA.out.inv (by omega) hX1 (by omega))
        have HI1 := hide (HA1.out.inv (by omega) (by omega) (by omega))
        have hll : l.length = 3 := HI0.out.len
        have hbig : l.length * 8 ≤ 140737488351232 := by omega
        have HBG := hide hbig
        have HL1 := hide (show l1.length = 3 from HI1.out.len)
        have HR := hide hR
        clear hR hd hll hbig
        have HXd := hide HX.out.drew
        obtain ⟨X0, X1, X2, X3⟩ := HX.out.all
        have jw : IntKind.i64.wrap (X : Int) = (X : Int) := by rw [wrap_s]; exact s64_small (by omega) (by omega)
        have j1 : (X : Int) < (ds.length : Int) := by omega
        go_wp2
        go_still_tail 5, (by kernel_rfl)
        change wpList _ _ _ _ _ wr.drew
        go_wp2_with fail
        (with_reducible refine (do_w k x y q HUU.out a b c _ l _ HXd.out.ints HBG.out a1 b1 c1 l1 3 HR.out HL1.out).mono ?_)
        rintro e w2 ⟨A1, n1, rfl, ⟨hm1, hm2⟩, HO, hb2⟩
        obtain ⟨w3, e3, hx3, hs3⟩ := HXd.out.next hb2 HO a1 b1 c1
        have HE3 := hide e3
        have HX3 := hide hx3
        have HXe := hide (HXd.out.below hb2)
        clear e3 hx3 HO X0 X1 X2 X3 d0 d1 d2 d3 jw j1
        obtain ⟨Y0, Y1, Y2, Y3⟩ := HXe.out.all
        obtain ⟨Y4, Y5, Y6, Y7⟩ := HXe.out.free
        go_wp2
        rw [HE3.out]
        go_roundw
        case rel => exact ⟨X + 1, a1, b1, c1, l1, A1, n1, by omega, by omega, by go_num, ⟨hm1, hm2⟩, HX3, HA1⟩
        case measure => simp [Go.RowKit.intOf]; omega
      · have HI := hide (HA.out.inv (by omega) hX1 (by omega))
        have hl3 : l.length = 3 := HI.out.len
        obtain ⟨T1, T2, T3, T4, T5⟩ := take_all HI.out (by omega) (i := j) (by show j < l.length; omega) (want := want) (by omega)
        obtain ⟨⟨a1, b1, c1, l1⟩, hR⟩ : ∃ R, lTake ⟨a, b, c, l⟩ ((j : Int) + 1) want = R := ⟨_, rfl⟩
        rw [hR] at T2 T3 T4 T5
        simp only at T1 T2 T3 T4 T5
        obtain rfl : a = a1 := T4.symm
        obtain rfl : b = b1 := T5.symm
        have hjl : j < l.length := by omega
        have hpo := HI.out.po
        simp only at hpo
        have hbal : -(8 * (X : Int)) ≤ l[j] ∧ l[j] ≤ 8 * (X : Int) := HI.out.bal _ (List.getElem_mem hjl)
        have hl1 : l1.length = 3 := by rw [T3, List.length_set]; exact hl3
        have hjl1 : j < l1.length := by omega
        have hg1 : l1[j] = l[j] + min want c := by simp only [T3, List.getElem_set_self]
        have hbig : l.length * 8 ≤ 140737488351232 := by omega
        have HBG := hide hbig
        have HT1 := hide T1
        have HR := hide hR
        have HL1 := hide hl1
        obtain ⟨t, ht⟩ : ∃ t, min want c = t := ⟨_, rfl⟩
        rw [ht] at T2 hg1 HT1
        have ht0 : 0 ≤ t ∧ t ≤ 255 ∧ t ≤ c := by omega
        have g1 : IntKind.i64.wrap (c - t) = c1 := by rw [wrap_s, T2]; exact s64_small (by omega) (by omega)
        have g2 : IntKind.i64.wrap (l[j] + t) = l1[j] := by rw [wrap_s, hg1]; exact s64_small (by omega) (by omega)
        have HLj := hide hjl
        have HLj1 := hide hjl1
        have HMN := hide ht
        have e9 : (j : Int) + 1 - 1 = (j : Int) := by omega
        have e8 : 1 + (j : Int) = (j : Int) + 1 := by omega
        have jw : IntKind.i64.wrap (j : Int) = (j : Int) := by rw [wrap_s]; exact s64_small (by omega) (by omega)
        have j1 : (j : Int) < 3 := by omega
        have hmin : want ≤ c ∧ t = want ∨ c < want ∧ t = c := by omega
        have HMM := hide hmin
        clear T1 T2 T3 hR hl1 hl3 hbig ht hmin ht0 hpo hbal hg1
        obtain ⟨X0, X1, X2, X3⟩ := HX.out.all
        go_wp2_with fail
        (with_reducible refine (Take_c a b c _ l ((j : Int) + 1) want _ HX.out.ints HBG.out a b c1 l1 3 t HR.out HT1.out HL1.out).mono ?_)
        rintro e w4 ⟨A1, n1, rfl, ⟨hm1, hm2⟩, HG, hb4⟩
        have HX4 := hide (HX.out.below hb4)
        have HG := hide HG
        clear X0 X1 X2 X3 hb4
        obtain ⟨w5, e5, hb5, hs5, T⟩ := lbox w4 a b c1 (.slice A1 3 n1) 24
        have HE5 := hide e5
        have HX5 := hide (HX4.out.below hb5)
        have HG5 := hide (HG.out.below hb5)
        have T := hide T
        clear e5 hb5
        go_upto_region 11 with (fail)
        rw [HE5.out]
        obtain ⟨X0, X1, X2, X3⟩ := HX5.out.all
        obtain ⟨T0, T1, T2, T3⟩ := T.out.all
        obtain ⟨g, off, rfl, -, y0⟩ := ints_at HX5.out.ints HLj.out
        obtain ⟨g3, off3, rfl, -, y1⟩ := ints_at HG5.out HLj1.out
        have hB5 := HX5.out.b
        generalize l[j] = u at *
        generalize l1[j] = u1 at *
        have wn : IntKind.i64.wrap want = want := by rw [wrap_s]; exact s64_small (by omega) (by omega)
        rcases HMM.out with ⟨hmm, rfl⟩ | ⟨hmm, rfl⟩
        · have hmm2 : ¬ c < t := by omega
          go_wp2
          go_quiet (fail)
          go_wp2
          go_ret
          exact ⟨rfl, bdrewN hB5 _⟩
        · have hc1 : c1 = 0 := by rw [← g1, Int.sub_self]; rfl
          subst hc1
          have w0 : IntKind.i64.wrap 0 = 0 := rfl
          go_wp2
          go_quiet (fail)
          go_wp2
          go_ret
          exact ⟨rfl, bdrewN hB5 _⟩
    · have HI := hide (HA.out.inv (by omega) hX1 (by omega))
      have hl3 : l.length = 3 := HI.out.len
      obtain ⟨T1, T2, T3, T4, T5⟩ := take_all HI.out (by omega) (i := j) (by show j < l.length; omega) (want := want) (by omega)
      obtain ⟨⟨a1, b1, c1, l1⟩, hR⟩ : ∃ R, lTake ⟨a, b, c, l⟩ ((j : Int) + 1) want = R := ⟨_, rfl⟩
      rw [hR] at T2 T3 T4 T5
      simp only at T1 T2 T3 T4 T5
      obtain rfl : a = a1 := T4.symm
      obtain rfl : b = b1 := T5.symm
      have hjl : j < l.length := by omega
      have hpo := HI.out.po
      simp only at hpo
      have hbal : -(8 * (X : Int)) ≤ l[j] ∧ l[j] ≤ 8 * (X : Int) := HI.out.bal _ (List.getElem_mem hjl)
      have hl1 : l1.length = 3 := by rw [T3, List.length_set]; exact hl3
      have hjl1 : j < l1.length := by omega
      have hg1 : l1[j] = l[j] + min want c := by simp only [T3, List.getElem_set_self]
      have hbig : l.length * 8 ≤ 140737488351232 := by omega
      have HBG := hide hbig
      have HT1 := hide T1
      have HR := hide hR
      have HL1 := hide hl1
      obtain ⟨t, ht⟩ : ∃ t, min want c = t := ⟨_, rfl⟩
      rw [ht] at T2 hg1 HT1
      have ht0 : 0 ≤ t ∧ t ≤ 255 ∧ t ≤ c := by omega
      have g1 : IntKind.i64.wrap (c - t) = c1 := by rw [wrap_s, T2]; exact s64_small (by omega) (by omega)
      have g2 : IntKind.i64.wrap (l[j] + t) = l1[j] := by rw [wrap_s, hg1]; exact s64_small (by omega) (by omega)
      have HLj := hide hjl
      have HLj1 := hide hjl1
      have HMN := hide ht
      have e9 : (j : Int) + 1 - 1 = (j : Int) := by omega
      have e8 : 1 + (j : Int) = (j : Int) + 1 := by omega
      have jw : IntKind.i64.wrap (j : Int) = (j : Int) := by rw [wrap_s]; exact s64_small (by omega) (by omega)
      have j1 : (j : Int) < 3 := by omega
      have hmin : want ≤ c ∧ t = want ∨ c < want ∧ t = c := by omega
      have HMM := hide hmin
      clear T1 T2 T3 hR hl1 hl3 hbig ht hmin ht0 hpo hbal hg1
      obtain ⟨X0, X1, X2, X3⟩ := HX.out.all
      go_wp2_with fail
      (with_reducible refine (Take_c a b c _ l ((j : Int) + 1) want _ HX.out.ints HBG.out a b c1 l1 3 t HR.out HT1.out HL1.out).mono ?_)
      rintro e w4 ⟨A1, n1, rfl, ⟨hm1, hm2⟩, HG, hb4⟩
      have HX4 := hide (HX.out.below hb4)
      have HG := hide HG
      clear X0 X1 X2 X3 hb4
      obtain ⟨w5, e5, hb5, hs5, T⟩ := lbox w4 a b c1 (.slice A1 3 n1) 24
      have HE5 := hide e5
      have HX5 := hide (HX4.out.below hb5)
      have HG5 := hide (HG.out.below hb5)
      have T := hide T
      clear e5 hb5
      go_upto_region 11 with (fail)
      rw [HE5.out]
      obtain ⟨X0, X1, X2, X3⟩ := HX5.out.all
      obtain ⟨T0, T1, T2, T3⟩ := T.out.all
      obtain ⟨g, off, rfl, -, y0⟩ := ints_at HX5.out.ints HLj.out
      obtain ⟨g3, off3, rfl, -, y1⟩ := ints_at HG5.out HLj1.out
      have hB5 := HX5.out.b
      generalize l[j] = u at *
      generalize l1[j] = u1 at *
      have wn : IntKind.i64.wrap want = want := by rw [wrap_s]; exact s64_small (by omega) (by omega)
      rcases HMM.out with ⟨hmm, rfl⟩ | ⟨hmm, rfl⟩
      · have hmm2 : ¬ c < t := by omega
        go_wp2
        go_quiet (fail)
        go_wp2
        go_ret
        exact ⟨rfl, bdrewN hB5 _⟩
      · have hc1 : c1 = 0 := by rw [← g1, Int.sub_self]; rfl
        subst hc1
        have w0 : IntKind.i64.wrap 0 = 0 := rfl
        go_wp2
        go_quiet (fail)
        go_wp2
        go_ret
        exact ⟨rfl, bdrewN hB5 _⟩

set_option maxRecDepth 100000 in
theorem lifted (os : Os) (started : os.Started) (H : Type) (enc : TypeId × Value → H) :
    ReturnsInHanded {} Try.checked os 7 .any (Rows.ledgerTakesSpec.pre6 enc Try.prog Try.f7 Rows.ledgerTakesRow.domain false) (Rows.ledgerTakesSpec.post enc Try.prog Try.f7 false true false false) := by
  refine returnsInHanded_of_change_sized (C := Try.checked) ownL started (by kernel_rfl) Try.func7
    (ChangeSpec.witness6 (enc := enc) (C := Try.checked) false ⟨#[], #[.slice none 0 0, .int .u8 0, .int .u8 0], []⟩ 8 (by kernel_rfl) (by kernel_rfl) (by kernel_rfl) (by kernel_rfl)) ?_
  intro W base args ds gs before hval hW _ hsz0 _
  have hW' := hW
  obtain ⟨p, q, hA0, hV, rfl, hfz, hnd⟩ := hW
  have hA : DataW.TrodAll enc Try.prog W 0 (fun _ => true) true Try.f7.params.toList args.toList ds p := hA0
  rw [Try.params7] at hA hval
  obtain ⟨v0, vs0, d0, ds0, p0, q0, hargs, rfl, rfl, h0, r0⟩ := trodAll_cons hA
  obtain ⟨v1, vs1, d1, ds1, p1, q1, rfl, rfl, rfl, h1, r1⟩ := trodAll_cons r0
  obtain ⟨v2, vs2, d2, ds2, p2, q2, rfl, rfl, rfl, h2, r2⟩ := trodAll_cons r1
  obtain ⟨rfl, rfl, rfl⟩ := trodAll_nil r2
  obtain rfl : args = #[v0, v1, v2] := by cases args; simp_all
  obtain ⟨rfl, rfl⟩ := trodVars_none hV
  obtain ⟨l0, hl0, hq0, hd0⟩ := open_deeds (hval 0 49 v0 rfl rfl) h0
  obtain ⟨a1, rfl, rfl, rfl, w1⟩ := open_int Try.underlying5 (hval 1 5 v1 rfl rfl) h1
  have hx1 : 0 ≤ a1 ∧ a1 ≤ 255 := by simpa [Lit.wf, IntKind.min, IntKind.max, IntKind.signed, IntKind.bits] using w1
  obtain ⟨a2, rfl, rfl, rfl, w2⟩ := open_int Try.underlying5 (hval 2 5 v2 rfl rfl) h2
  have hx2 : 0 ≤ a2 ∧ a2 ≤ 255 := by simpa [Lit.wf, IntKind.min, IntKind.max, IntKind.signed, IntKind.bits] using w2
  have hsz : (DataW.weightsEach Try.prog [49, 5, 5] ([d0, .lit (.int .u8 a1), .lit (.int .u8 a2)] : List (DataW H))).all (· ≤ reachBytes) = true := hsz0
  have e0 : l0.length * 4 ≤ 140737488351232 := slice_reach hsz 0 rfl rfl Try.underlying49 (by kernel_rfl) hd0
  refine (walk v0 l0 hq0 a1 a2 hx1 hx2 W hl0).mono fun e W' ⟨he, hg⟩ => ?_
  subst he
  exact ⟨_, rfl, law_post laidOutL (by kernel_rfl) rfl Try.underlying4 rfl ⟨rfl, rfl, rfl⟩ hW' hg⟩

/-- THE STATEMENT -/
theorem proved : Rows.LedgerTakesSaid :=
  OpenClaim.holds_of_wide 7 Try.f7 rfl rfl rfl rfl rfl rfl rfl ⟨rfl, rfl, rfl, rfl, rfl⟩ rfl rfl rfl rfl rfl (by kernel_rfl) Try.func7 (by kernel_rfl)
    (of_decide_eq_true (by kernel_rfl)) (by unfold Func.isWrapper; first | (rw [if_pos (by decide +kernel)]; kernel_rfl) | (rw [if_neg (by decide +kernel)]; exact ⟨rfl, rfl⟩))
    (fun os started H enc _ => lifted os started H enc)
end Go.Proofs.Ytgbkphgclpgppaa.lawLedgerTakes
