/- LedgerSums: of any number of mutators, any deeds: what was scanned is what was spent, the pool, and all balances; the pool is never below 0. No condition. -/
import Derived.Test.YtgbkphgclpgppaaLedgerOpen
import Derived.Deep.Cut
import Derived.StillTailTactics
namespace Go.Proofs.Ytgbkphgclpgppaa.lawLedgerSums
open Go.RowKit Go.WideShapes Go.ChangeShapes Go.ChangeAt Go.Proofs Go.Proofs.Ytgbkphgclpgppaa

set_option maxRecDepth 100000 in
set_option maxHeartbeats 8000000 in
theorem walk (m : Int) (hm : 0 ≤ m ∧ m ≤ 255) (v : Value) (ds : List Dg) (hU : ∀ d ∈ ds, DgU d) (w : World) (h : Dgs w v ds) :
    Calls Try.prog 4 #[.int .u8 m, v] w fun e w' => e = .returned (.bool true) ∧ Below w.heap.size w w' := by
  have hB : Below w.heap.size w w := Below.refl _ _
  have HD := hide h
  have HU := hide hU
  obtain ⟨D0, dcap, rfl, hd1, hd2, -⟩ := id h
  unfold maxLen at hd2
  clear h hU
  obtain ⟨z, hz⟩ : ∃ z : Nat, m % 6 = (z : Int) := ⟨(m % 6).toNat, by omega⟩
  have hz5 : z ≤ 5 := by omega
  have tz := tm (x := m) hm 6
  rw [hz] at tz
  clear hz
  have HZ := hide hz5
  go_enter Try.func4, Try.ntmps4
  go_wp2_with fail
  (with_reducible refine (examples_any _).mono ?_)
  rintro e w1 ⟨rfl, hb1⟩
  replace hB := bcall hB hb1
  have hs1 := hb1.size
  clear hb1
  go_wp2_with fail
  (with_reducible refine (New_c (z : Int) (List.replicate z 0) z (by unfold lNew; rw [show (min (max (z : Int) 0) 16).toNat = z by omega]) (List.length_replicate ..) _).mono ?_)
  rintro e w2 ⟨A2, c2, rfl, p2, GN, hb2⟩
  replace hB := bcall hB hb2
  have hs2 := hb2.size
  clear hb2
  have GN := hide GN
  obtain ⟨w3, e3, hb3, hs3, BX⟩ := lbox w2 (0) (0) (0) (.slice A2 z c2) 24
  have HE3 := hide e3
  have BX := hide BX
  clear e3
  replace GN := hide (GN.out.below hb3)
  replace hB := bcall hB hb3
  clear hb3
  go_upto_region 5 with (fail)
  rw [HE3.out]
  have HX := hide (show XAt w w2.heap.size 0 0 0 (.slice A2 z c2) (List.replicate z 0) w3 from ⟨BX.out, GN.out, hB, by omega⟩)
  obtain ⟨B, hBB⟩ : ∃ B, w2.heap.size = B := ⟨_, rfl⟩
  rw [hBB] at HX ⊢
  clear BX GN hB
  go_wp2
  go_loopw [7] (fun iv wr => ∃ (X : Nat) (a b c : Int) (l : List Int) (A : Option Addr) (n : Nat), X ≤ ds.length ∧ X ≤ 300 ∧ iv = .int .i64 X ∧ (z ≤ n ∧ n ≤ 9223372036854775807) ∧ Hid (XAt w B a b c (.slice A z n) l wr) ∧ Hid (At z ds X a b c l)) (fun iv _ => 300 - (Go.RowKit.intOf iv).toNat)
  case atStart => exact ⟨0, 0, 0, 0, _, A2, c2, Nat.zero_le _, Nat.zero_le _, rfl, p2, HX, hide (At.start (by omega) ds)⟩
  clear HX p2
  case round =>
    obtain ⟨X, a, b, c, l, A, n, hX1, hX2, rfl, ⟨hn1, hn2⟩, HX, HA⟩ := hrel
    have HD1 := hide (HD.out.below HX.out.b)
    by_cases hlt : X < ds.length
    · by_cases h3 : X < 300
      · obtain ⟨⟨k, x, y, q⟩, hd⟩ : ∃ d : Dg, ds[X] = d := ⟨_, rfl⟩
        have hu : DgU ⟨k, x, y, q⟩ := by rw [← hd]; exact HU.out _ (List.getElem_mem hlt)
        have HUU := hide hu
        clear hu
        obtain ⟨g, off, rfl, hg, d0, d1, d2, d3⟩ := dg_at HD1.out hlt hd
        obtain ⟨⟨a1, b1, c1, l1⟩, hR⟩ : ∃ R, lDo ⟨a, b, c, l⟩ k x y q = R := ⟨_, rfl⟩
        have HA1 := hide (HA.out.next hlt hd hR)
        have HI0 := hide (HA.out.inv (by omega) hX1 hX2)
        have HI1 := hide (HA1.out.inv (by omega) (by omega) (by omega))
        have hll : l.length = z := HI0.out.len
        have hbig : l.length * 8 ≤ 140737488351232 := by omega
        have HBG := hide hbig
        have HL1 := hide (show l1.length = z from HI1.out.len)
        have HR := hide hR
        clear hR hd hll hbig
        have HXd := hide HX.out.drew
        obtain ⟨X0, X1, X2, X3⟩ := HX.out.all
        have jw : IntKind.i64.wrap (X : Int) = (X : Int) := by rw [wrap_s]; exact s64_small (by omega) (by omega)
        have j1 : (X : Int) < (ds.length : Int) := by omega
        go_wp2
        go_still_tail 5, (by kernel_rfl)
        change wpList _ _ _ _ _ wr.drew
        go_wp2_with fail
        (with_reducible refine (do_w k x y q HUU.out a b c _ l _ HXd.out.ints HBG.out a1 b1 c1 l1 z HR.out HL1.out).mono ?_)
        rintro e w2 ⟨A1, n1, rfl, ⟨hm1, hm2⟩, HO, hb2⟩
        obtain ⟨w3, e3, hx3, hs3⟩ := HXd.out.next hb2 HO a1 b1 c1
        have HE3 := hide e3
        have HX3 := hide hx3
        have HXe := hide (HXd.out.below hb2)
        clear e3 hx3 HO X0 X1 X2 X3 d0 d1 d2 d3 jw j1
        obtain ⟨Y0, Y1, Y2, Y3⟩ := HXe.out.all
        obtain ⟨Y4, Y5, Y6, Y7⟩ := HXe.out.free
        go_upto_region 9 with (fail)
        rw [HE3.out]
        clear Y0 Y1 Y2 Y3 Y4 Y5 Y6 Y7 hb2 HXe HXd hs3
        have hr1 : lRight ⟨a1, b1, c1, l1⟩ = true := linv_right HI1.out (by omega) (by omega)
        have hc0 : 0 ≤ c1 := HI1.out.po.1
        have hsum : lSumF (s64 (b1 + c1)) l1 = a1 := by rw [right_is] at hr1; simp only [Bool.and_eq_true, decide_eq_true_eq] at hr1; exact hr1.2.2.2.2.2
        have HR1 := hide hr1
        have e1 := wrap_s (b1 + c1)
        obtain ⟨s, hs⟩ : ∃ s, s64 (b1 + c1) = s := ⟨_, rfl⟩
        rw [hs] at e1 hsum
        have HS := hide hsum
        clear hs hsum hr1
        obtain ⟨X0, X1, X2, X3⟩ := HX3.out.all
        go_wp2
        go_loopw [8, 9] (fun tv kv wq => ∃ k : Nat, k ≤ z ∧ kv = .int .i64 k ∧ tv = .int .i64 (lSumF s (l1.take k)) ∧ wq = w3) (fun _ kv _ => z - (Go.RowKit.intOf kv).toNat)
        case atStart => exact ⟨0, Nat.zero_le _, rfl, rfl, rfl⟩
        case round =>
          obtain ⟨j, hj, rfl, rfl, rfl⟩ := hrel
          by_cases hjl : j < z
          · have hjl1 : j < l1.length := by rw [HL1.out]; exact hjl
            obtain ⟨g2, off2, rfl, -, y0⟩ := ints_at HX3.out.ints hjl1
            have HT := hide (sum_take hjl1 s)
            have e2 := wrap_s (lSumF s (l1.take j) + l1[j])
            rw [← HT.out] at e2
            obtain ⟨t, ht⟩ : ∃ t, lSumF s (l1.take j) = t := ⟨_, rfl⟩
            rw [ht] at e2 ⊢
            clear HT
            generalize l1[j] = u at *
            go_wp2
            go_roundw
            case rel => exact ⟨j + 1, by omega, by go_num, rfl, trivial⟩
            case measure => simp [Go.RowKit.intOf]; omega
          · have hjz : j = z := by omega
            subst hjz
            have HT := hide (show lSumF s (l1.take j) = a1 by rw [List.take_of_length_le (by rw [HL1.out]; exact Nat.le_refl _)]; exact HS.out)
            rw [HT.out]
            have hc1 : ¬ c1 < 0 := by omega
            go_wp2_with fail
            (with_reducible refine (Right_c a1 b1 c1 _ l1 _ HX3.out.ints true HR1.out).mono ?_)
            rintro e w4 ⟨rfl, hb4⟩
            have HX4 := hide (HX3.out.below hb4)
            obtain ⟨X0, X1, X2, X3⟩ := HX4.out.all
            go_wp2
            go_roundw
            case rel => exact ⟨X + 1, a1, b1, c1, l1, A1, n1, by omega, by omega, by go_num, ⟨hm1, hm2⟩, HX4, HA1⟩
            case measure => simp [Go.RowKit.intOf]; omega
      · go_wp2
        go_ret
        exact ⟨rfl, HX.out.b⟩
    · go_wp2
      go_ret
      exact ⟨rfl, HX.out.b⟩

set_option maxRecDepth 100000 in
theorem lifted (os : Os) (started : os.Started) (H : Type) (enc : TypeId × Value → H) :
    ReturnsInHanded {} Try.checked os 4 .any (Rows.ledgerSumsSpec.pre6 enc Try.prog Try.f4 Rows.ledgerSumsRow.domain false) (Rows.ledgerSumsSpec.post enc Try.prog Try.f4 false true false false) := by
  refine returnsInHanded_of_change_sized (C := Try.checked) ownL started (by kernel_rfl) Try.func4
    (ChangeSpec.witness6 (enc := enc) (C := Try.checked) false ⟨#[], #[.int .u8 0, .slice none 0 0], []⟩ 8 (by kernel_rfl) (by kernel_rfl) (by kernel_rfl) (by kernel_rfl)) ?_
  intro W base args ds gs before hval hW _ hsz0 _
  have hW' := hW
  obtain ⟨p, q, hA0, hV, rfl, hfz, hnd⟩ := hW
  have hA : DataW.TrodAll enc Try.prog W 0 (fun _ => true) true Try.f4.params.toList args.toList ds p := hA0
  rw [Try.params4] at hA hval
  obtain ⟨v0, vs0, d0, ds0, p0, q0, hargs, rfl, rfl, h0, r0⟩ := trodAll_cons hA
  obtain ⟨v1, vs1, d1, ds1, p1, q1, rfl, rfl, rfl, h1, r1⟩ := trodAll_cons r0
  obtain ⟨rfl, rfl, rfl⟩ := trodAll_nil r1
  obtain rfl : args = #[v0, v1] := by cases args; simp_all
  obtain ⟨rfl, rfl⟩ := trodVars_none hV
  obtain ⟨a0, rfl, rfl, rfl, w0⟩ := open_int Try.underlying5 (hval 0 5 v0 rfl rfl) h0
  have hx0 : 0 ≤ a0 ∧ a0 ≤ 255 := by simpa [Lit.wf, IntKind.min, IntKind.max, IntKind.signed, IntKind.bits] using w0
  obtain ⟨l1, hl1, hq1, hd1⟩ := open_deeds (hval 1 49 v1 rfl rfl) h1
  have hsz : (DataW.weightsEach Try.prog [5, 49] ([.lit (.int .u8 a0), d1] : List (DataW H))).all (· ≤ reachBytes) = true := hsz0
  have e1 : l1.length * 4 ≤ 140737488351232 := slice_reach hsz 1 rfl rfl Try.underlying49 (by kernel_rfl) hd1
  refine (walk a0 hx0 v1 l1 hq1 W hl1).mono fun e W' ⟨he, hg⟩ => ?_
  subst he
  exact ⟨_, rfl, law_post laidOutL (by kernel_rfl) rfl Try.underlying4 rfl ⟨rfl, rfl, rfl⟩ hW' hg⟩

/-- THE STATEMENT -/
theorem proved : Rows.LedgerSumsSaid :=
  OpenClaim.holds_of_wide 4 Try.f4 rfl rfl rfl rfl rfl rfl rfl ⟨rfl, rfl, rfl, rfl, rfl⟩ rfl rfl rfl rfl rfl (by kernel_rfl) Try.func4 (by kernel_rfl)
    (of_decide_eq_true (by kernel_rfl)) (by unfold Func.isWrapper; first | (rw [if_pos (by decide +kernel)]; kernel_rfl) | (rw [if_neg (by decide +kernel)]; exact ⟨rfl, rfl⟩))
    (fun os started H enc _ => lifted os started H enc)
end Go.Proofs.Ytgbkphgclpgppaa.lawLedgerSums
