/- LedgerApart: of any ledger, any deed: what one does turns nobody else's balance, and not the ledger that was there. No condition. -/
import Derived.Test.YtgbkphgclpgppaaLedgerOpen
import Derived.Deep.Cut
import Derived.StillTailTactics
namespace Go.Proofs.Ytgbkphgclpgppaa.lawLedgerApart
open Go.RowKit Go.WideShapes Go.ChangeShapes Go.ChangeAt Go.Proofs Go.Proofs.Ytgbkphgclpgppaa

set_option maxRecDepth 100000 in
set_option maxHeartbeats 8000000 in
theorem walk (a b c : Int) (v : Value) (l : List Int) (k x n q : Int) (hU : DgU ⟨k, x, n, q⟩) (hbig : l.length * 8 ≤ 140737488351232) (w : World) (h : Ints w v l) :
    Calls Try.prog 8 #[lv a b c v, dv k x n q] w fun e w' => e = .returned (.bool true) ∧ Below w.heap.size w w' := by
  have hB : Below w.heap.size w w := Below.refl _ _
  obtain ⟨i0, hi, hz0, hz1, hz2⟩ := info_parts infoI
  have HI := hide h
  obtain ⟨A, m, rfl, hn1, hn2, -⟩ := id h
  unfold maxLen at hn2
  clear h
  have ty := tm hU.2.1 6
  obtain ⟨y, hy⟩ : ∃ y, x % 6 = y := ⟨_, rfl⟩
  have hy0 : 0 ≤ y ∧ y ≤ 5 := by omega
  obtain ⟨hy1, hy2⟩ := hy0
  rw [hy] at ty
  obtain ⟨⟨a1, b1, c1, l1⟩, hR⟩ : ∃ R, lDo ⟨a, b, c, l⟩ k x n q = R := ⟨_, rfl⟩
  have hL1 : l1.length = l.length := by have := lDo_len ⟨a, b, c, l⟩ k x n q; rw [hR] at this; exact this
  have HOT := hide (show ∀ i : Nat, (i : Int) + 1 ≠ y → l1[i]? = l[i]? by intro i hne; have := lDo_other ⟨a, b, c, l⟩ k x n q i (by rw [hy]; exact hne); rw [hR] at this; exact this)
  have HR := hide hR
  have HL1 := hide hL1
  have HU := hide hU
  clear hR hL1 hU hy
  obtain ⟨w0, e0, hx0, hz9, X⟩ := lbox w a b c (.slice A l.length m) 24
  obtain ⟨w1, e1, hx1, hz8, D⟩ : ∃ w1, w0.alloc (.cells #[.int .u8 k, .int .u8 x, .int .u8 n, .int .u8 q] 51) = w1 ∧ Below w0.heap.size w0 w1 ∧ w1.heap.size = w0.heap.size + 1 ∧ Dx w1 w0.heap.size k x n q := ⟨_, rfl, bal _ _, by simp, ⟨heap_alloc_new w0 _⟩⟩
  rw [hz9] at D
  have X := hide (X.below hx1)
  have D := hide D
  have HE1 := hide (show (w.alloc _).alloc _ = w1 by rw [e0, e1])
  replace hB := bcall hx0 hx1
  replace HI := hide (HI.out.below hB)
  clear e0 e1 hx0 hx1 hz9 hz8
  go_enter Try.func8, Try.ntmps8
  go_wp2_with fail
  rw [HE1.out]
  (with_reducible refine (examples_any _).mono ?_)
  rintro e w2 ⟨rfl, hb2⟩
  replace X := hide (X.out.below hb2)
  replace D := hide (D.out.below hb2)
  replace HI := hide (HI.out.below hb2)
  replace hB := bcall hB hb2
  have hs2 := hb2.size
  clear hb2
  obtain ⟨X0, X1, X2, X3⟩ := X.out.all
  go_wp2_with (at_builtin; refine wpList_append_sl _ rfl _ _ 22 rfl w2.heap.size 2 i0 (.int .i64 0) 1 8 Try.underlying22 hi hz0 hz1 hz2 rfl (by decide) _ _ _ rfl (World.ownsRow_nil _ _ _ _) _ l rfl HI.out ic_len (fun _ u hu => by simp [ic] at hu; subst hu; rfl) (by unfold maxLen; omega) (by omega) (by simp) ?_)
  intro v9 w3 hown hb3
  obtain ⟨A9, m9, rfl, h91, h92⟩ := own_form hown
  unfold maxLen at h92
  have HW := hide (OwnB.ints hown)
  clear hown
  clear X0 X1 X2 X3
  replace X := hide (X.out.below hb3)
  replace D := hide (D.out.below hb3)
  replace HI := hide (HI.out.below hb3)
  replace hB := bcall hB hb3
  clear hb3
  obtain ⟨X0, X1, X2, X3⟩ := X.out.all
  obtain ⟨D0, D1, D2, D3⟩ := D.out.all
  go_wp2_with fail
  clear X0 X1 X2 X3 D0 D1 D2 D3
  (with_reducible refine (do_w k x n q HU.out a b c _ l _ HI.out hbig a1 b1 c1 l1 l.length HR.out HL1.out).mono ?_)
  rintro e w4 ⟨A1, m1, rfl, ⟨h11, h12⟩, HO, hb4⟩
  replace X := hide (X.out.below hb4)
  replace D := hide (D.out.below hb4)
  replace HI := hide (HI.out.below hb4)
  replace HW := hide (HW.out.below hb4)
  replace hB := bcall hB hb4
  have hs4 := hb4.size
  clear hb4
  have HN := hide (OwnB.ints HO)
  clear HO
  obtain ⟨w5, e5, hb5, hs5, N⟩ := lbox w4 (a1) (b1) (c1) (.slice A1 l.length m1) 24
  have HE5 := hide e5
  have N := hide N
  clear e5
  replace X := hide (X.out.below hb5)
  replace D := hide (D.out.below hb5)
  replace HI := hide (HI.out.below hb5)
  replace HW := hide (HW.out.below hb5)
  replace HN := hide (HN.out.below hb5)
  replace hB := bcall hB hb5
  clear hb5
  go_upto_region 6 with (fail)
  rw [HE5.out]
  obtain ⟨X0, X1, X2, X3⟩ := X.out.all
  obtain ⟨N0, N1, N2, N3⟩ := N.out.all
  go_wp2
  go_loopw [8] (fun iv wr => ∃ i : Nat, i ≤ l.length ∧ iv = .int .i64 i ∧ Below w5.heap.size w5 wr) (fun iv _ => l.length - (Go.RowKit.intOf iv).toNat)
  case atStart => exact ⟨0, Nat.zero_le _, rfl, Below.refl _ _⟩
  clear X0 X1 X2 X3 N0 N1 N2 N3
  case round =>
    obtain ⟨i, hi1, rfl, hb⟩ := hrel
    have hBr := bcall hB hb
    obtain ⟨X0, X1, X2, X3⟩ := (X.out.below hb).all
    obtain ⟨N0, N1, N2, N3⟩ := (N.out.below hb).all
    obtain ⟨D0, D1, D2, D3⟩ := (D.out.below hb).all
    by_cases hlt : i < l.length
    · have hlt1 : i < l1.length := by rw [HL1.out]; exact hlt
      obtain ⟨g, off, rfl, -, y0⟩ := ints_at (HI.out.below hb) hlt
      obtain ⟨g9, off9, rfl, -, y9⟩ := ints_at (HW.out.below hb) hlt
      obtain ⟨g1, off1, rfl, -, y1⟩ := ints_at (HN.out.below hb) hlt1
      have HV := hide (show (i : Int) + 1 ≠ y → l1[i] = l[i] by intro hne; have := HOT.out i hne; rw [List.getElem?_eq_getElem hlt, List.getElem?_eq_getElem hlt1] at this; exact Option.some.inj this)
      generalize l[i] = u at *
      generalize l1[i] = u1 at *
      have jw : IntKind.i64.wrap (i : Int) = (i : Int) := by rw [wrap_s]; exact s64_small (by omega) (by omega)
      have jw1 : IntKind.i64.wrap ((i : Int) + 1) = (i : Int) + 1 := by rw [wrap_s]; exact s64_small (by omega) (by omega)
      have j1 : (i : Int) < (l.length : Int) := by omega
      have yw : IntKind.i64.wrap y = y := by rw [wrap_s]; exact s64_small (by omega) (by omega)
      by_cases hne : (i : Int) + 1 = y
      · have eb : (((i : Int) + 1) != y) = false := by simp [hne]
        clear hne
        go_wp2
        go_quiet (fail)
        go_wp2
        go_roundw
        case rel => exact ⟨i + 1, by omega, by go_num, bdrewN hb _⟩
        case measure => simp [Go.RowKit.intOf]; omega
      · have eb : (((i : Int) + 1) != y) = true := by rw [bne_iff_ne]; exact hne
        have hv := HV.out hne
        subst hv
        clear hne
        go_wp2
        go_quiet (fail)
        go_wp2
        go_roundw
        case rel => exact ⟨i + 1, by omega, by go_num, bdrewN hb _⟩
        case measure => simp [Go.RowKit.intOf]; omega
    · have HIr := hide (HI.out.below hb)
      have HNr := hide (HN.out.below hb)
      go_wp2_with fail
      (with_reducible refine (Same_c a b c _ l a b c _ l _ HIr.out HIr.out true (lSame_self _)).mono ?_)
      rintro e ws ⟨rfl, hbs⟩
      clear X0 X1 X2 X3 N0 N1 N2 N3 D0 D1 D2 D3
      have HNs := hide (HNr.out.below hbs)
      obtain ⟨N0, N1, N2, N3⟩ := ((N.out.below hb).below hbs).all
      have hBs := bcall hBr hbs
      go_wp2_with fail
      (with_reducible refine (Same_c a1 b1 c1 _ l1 a1 b1 c1 _ l1 _ HNs.out HNs.out true (lSame_self _)).mono ?_)
      rintro e wt ⟨rfl, hbt⟩
      have hBt := bcall hBs hbt
      go_wp2
      go_ret
      exact ⟨rfl, hBt⟩

set_option maxRecDepth 100000 in
theorem lifted (os : Os) (started : os.Started) (H : Type) (enc : TypeId × Value → H) :
    ReturnsInHanded {} Try.checked os 8 .any (Rows.ledgerApartSpec.pre6 enc Try.prog Try.f8 Rows.ledgerApartRow.domain false) (Rows.ledgerApartSpec.post enc Try.prog Try.f8 false true false false) := by
  refine returnsInHanded_of_change_sized (C := Try.checked) ownL started (by kernel_rfl) Try.func8
    (ChangeSpec.witness6 (enc := enc) (C := Try.checked) false ⟨#[], #[.agg #[.int .i64 0, .int .i64 0, .int .i64 0, .slice none 0 0], .agg #[.int .u8 0, .int .u8 0, .int .u8 0, .int .u8 0]], []⟩ 8 (by kernel_rfl) (by kernel_rfl) (by kernel_rfl) (by kernel_rfl)) ?_
  intro W base args ds gs before hval hW _ hsz0 _
  have hW' := hW
  obtain ⟨p, q, hA0, hV, rfl, hfz, hnd⟩ := hW
  have hA : DataW.TrodAll enc Try.prog W 0 (fun _ => true) true Try.f8.params.toList args.toList ds p := hA0
  rw [Try.params8] at hA hval
  obtain ⟨v0, vs0, d0, ds0, p0, q0, hargs, rfl, rfl, h0, r0⟩ := trodAll_cons hA
  obtain ⟨v1, vs1, d1, ds1, p1, q1, rfl, rfl, rfl, h1, r1⟩ := trodAll_cons r0
  obtain ⟨rfl, rfl, rfl⟩ := trodAll_nil r1
  obtain rfl : args = #[v0, v1] := by cases args; simp_all
  obtain ⟨rfl, rfl⟩ := trodVars_none hV
  obtain ⟨a0, b0, c0, u0, l0, rfl, hg0, hr0, hf0⟩ := open_ledger (hval 0 24 v0 rfl rfl) h0
  obtain ⟨k1, x1, n1, q1, rfl, hq1⟩ := open_deed (hval 1 51 v1 rfl rfl) h1
  have hsz : (DataW.weightsEach Try.prog [24, 51] ([d0, d1] : List (DataW H))).all (· ≤ reachBytes) = true := hsz0
  have e0 : l0.length * 8 ≤ 140737488351232 := hf0 fun k hk => by have h1 := List.all_eq_true.1 hsz k (DataW.weights_mem_each (j := 0) rfl rfl k hk); simpa [reachBytes] using of_decide_eq_true h1
  refine (walk a0 b0 c0 u0 l0 k1 x1 n1 q1 hq1 e0 W hg0).mono fun e W' ⟨he, hg⟩ => ?_
  subst he
  exact ⟨_, rfl, law_post laidOutL (by kernel_rfl) rfl Try.underlying4 rfl ⟨rfl, rfl, rfl⟩ hW' hg⟩

/-- THE STATEMENT -/
theorem proved : Rows.LedgerApartSaid :=
  OpenClaim.holds_of_wide 8 Try.f8 rfl rfl rfl rfl rfl rfl rfl ⟨rfl, rfl, rfl, rfl, rfl⟩ rfl rfl rfl rfl rfl (by kernel_rfl) Try.func8 (by kernel_rfl)
    (of_decide_eq_true (by kernel_rfl)) (by unfold Func.isWrapper; first | (rw [if_pos (by decide +kernel)]; kernel_rfl) | (rw [if_neg (by decide +kernel)]; exact ⟨rfl, rfl⟩))
    (fun os started H enc _ => lifted os started H enc)
end Go.Proofs.Ytgbkphgclpgppaa.lawLedgerApart
