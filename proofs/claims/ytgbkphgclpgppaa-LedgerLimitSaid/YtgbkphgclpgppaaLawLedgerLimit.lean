/- LedgerLimit: of any number of mutators, any limit, any deeds: with one limit for all nobody comes below it, the other way round. No condition. -/
import Derived.Test.YtgbkphgclpgppaaLedgerOpen
import Derived.Deep.Cut
import Derived.StillTailTactics
namespace Go.Proofs.Ytgbkphgclpgppaa.lawLedgerLimit
open Go.RowKit Go.WideShapes Go.ChangeShapes Go.ChangeAt Go.Proofs Go.Proofs.Ytgbkphgclpgppaa

set_option maxRecDepth 100000 in
set_option maxHeartbeats 8000000 in
theorem walk (m lim : Int) (hm : 0 ≤ m ∧ m ≤ 255) (hlim : 0 ≤ lim ∧ lim ≤ 255) (v : Value) (ds : List Dg) (hU : ∀ d ∈ ds, DgU d) (w : World) (h : Dgs w v ds) :
    Calls Try.prog 5 #[.int .u8 m, .int .u8 lim, v] w fun e w' => e = .returned (.bool true) ∧ Below w.heap.size w w' := by
  have hB : Below w.heap.size w w := Below.refl _ _
  have HD := hide h
  have HU := hide hU
  obtain ⟨D0, dcap, rfl, hd1, hd2, -⟩ := id h
  unfold maxLen at hd2
  clear h hU
  obtain ⟨z0, hz⟩ : ∃ z : Nat, m % 5 = (z : Int) := ⟨(m % 5).toNat, by omega⟩
  have hz04 : z0 ≤ 4 := by omega
  have tz := tm (x := m) hm 5
  rw [hz] at tz
  clear hz
  obtain ⟨z, hz1, hz5⟩ : ∃ z : Nat, 1 + (z0 : Int) = (z : Int) ∧ z ≤ 5 := ⟨z0 + 1, by omega, by omega⟩
  obtain ⟨L, hL⟩ : ∃ L, lim % 9 = L := ⟨_, rfl⟩
  have hL8 : 0 ≤ L ∧ L ≤ 8 := by omega
  have tl := tm (x := lim) hlim 9
  rw [hL] at tl
  have HLm := hide hL
  have hL0 := hL8.1
  have hL1 := hL8.2
  have HL8 := hide hL8
  have hlim0 := hlim.1
  have hlim1 := hlim.2
  clear hL hL8
  have HZN := hide (show (lNew (1 + (z0 : Int))).bal = List.replicate z 0 by unfold lNew; rw [show (min (max (1 + (z0 : Int)) 0) 16).toNat = z by omega])
  obtain ⟨es, hes⟩ : ∃ es, ds.map (fun d => (⟨d.kind, d.who, d.n, lim⟩ : Dg)) = es := ⟨_, rfl⟩
  have hel : es.length = ds.length := by rw [← hes]; simp
  have HEG := hide (show ∀ (X : Nat) (h : X < es.length) (h' : X < ds.length), es[X] = ⟨ds[X].kind, ds[X].who, ds[X].n, lim⟩ by intro X h h'; subst hes; simp)
  have HEL := hide hel
  clear hes hel
  go_enter Try.func5, Try.ntmps5
  go_wp2_with fail
  (with_reducible refine (examples_any _).mono ?_)
  rintro e w1 ⟨rfl, hb1⟩
  replace hB := bcall hB hb1
  have hs1 := hb1.size
  clear hb1
  go_wp2_with fail
  (with_reducible refine (New_c (z : Int) (List.replicate z 0) z (by rw [← hz1]; exact HZN.out) (List.length_replicate ..) _).mono ?_)
  rintro e w2 ⟨A2, c2, rfl, p2, GN, hb2⟩
  replace hB := bcall hB hb2
  have hs2 := hb2.size
  clear hb2
  have GN := hide GN
  obtain ⟨w3, e3, hb3, hs3, BX⟩ := lbox w2 (0) (0) (0) (.slice A2 z c2) 24
  have HE3 := hide e3
  have BX := hide BX
  clear e3
  replace GN := hide (GN.out.below hb3)
  replace hB := bcall hB hb3
  clear hb3
  go_upto_region 5 with (fail)
  rw [HE3.out]
  have HX := hide (show XAt w w2.heap.size 0 0 0 (.slice A2 z c2) (List.replicate z 0) w3 from ⟨BX.out, GN.out, hB, by omega⟩)
  obtain ⟨B, hBB⟩ : ∃ B, w2.heap.size = B := ⟨_, rfl⟩
  rw [hBB] at HX ⊢
  clear BX GN hB
  go_wp2
  go_loopw [9] (fun iv wr => ∃ (X : Nat) (a b c : Int) (l : List Int) (A : Option Addr) (n : Nat), X ≤ ds.length ∧ X ≤ 300 ∧ iv = .int .i64 X ∧ (z ≤ n ∧ n ≤ 9223372036854775807) ∧ Hid (XAt w B a b c (.slice A z n) l wr) ∧ Hid (At z es X a b c l) ∧ Hid (∀ u ∈ l, -L ≤ u)) (fun iv _ => 300 - (Go.RowKit.intOf iv).toNat)
  case atStart => exact ⟨0, 0, 0, 0, _, A2, c2, Nat.zero_le _, Nat.zero_le _, rfl, p2, HX, hide (At.start (by omega) es), hide (fun u hu => by rw [List.mem_replicate] at hu; rw [hu.2]; omega)⟩
  clear HX p2
  case round =>
    obtain ⟨X, a, b, c, l, A, n, hX1, hX2, rfl, ⟨hn1, hn2⟩, HX, HA, HM⟩ := hrel
    have HD1 := hide (HD.out.below HX.out.b)
    by_cases hlt : X < ds.length
    · by_cases h3 : X < 300
      · obtain ⟨⟨k, x, y, q⟩, hd⟩ : ∃ d : Dg, ds[X] = d := ⟨_, rfl⟩
        have hu : DgU ⟨k, x, y, q⟩ := by rw [← hd]; exact HU.out _ (List.getElem_mem hlt)
        have HUU := hide hu
        clear hu
        obtain ⟨g, off, rfl, hg, d0, d1, d2, d3⟩ := dg_at HD1.out hlt hd
        have hle : X < es.length := by rw [HEL.out]; exact hlt
        have hdl : es[X] = ⟨k, x, y, lim⟩ := by rw [HEG.out X hle hlt, hd]
        have HUV := hide (show DgU ⟨k, x, y, lim⟩ from ⟨HUU.out.1, HUU.out.2.1, HUU.out.2.2.1, hlim0, hlim1⟩)
        obtain ⟨⟨a1, b1, c1, l1⟩, hR⟩ : ∃ R, lDo ⟨a, b, c, l⟩ k x y lim = R := ⟨_, rfl⟩
        have HA1 := hide (HA.out.next hle hdl hR)
        have HI0 := hide (HA.out.inv (by omega) (by omega) hX2)
        have HI1 := hide (HA1.out.inv (by omega) (by omega) (by omega))
        have HM1 := hide (lim_do HI0.out (by omega) HL8.out HM.out k x y lim HLm.out)
        rw [hR] at HM1
        have hll : l.length = z := HI0.out.len
        have hbig : l.length * 8 ≤ 140737488351232 := by omega
        have HBG := hide hbig
        have HN1 := hide (show l1.length = z from HI1.out.len)
        have HR := hide hR
        clear hR hd hdl hll hbig hle
        obtain ⟨X0, X1, X2, X3⟩ := HX.out.all
        have jw : IntKind.i64.wrap (X : Int) = (X : Int) := by rw [wrap_s]; exact s64_small (by omega) (by omega)
        have j1 : (X : Int) < (ds.length : Int) := by omega
        go_upto_region 9 with (fail)
        obtain ⟨wd, ed, hbd, hsd, D⟩ : ∃ w0, wr.alloc (.cells #[.int .u8 k, .int .u8 x, .int .u8 y, .int .u8 q] 51) = w0 ∧ Below wr.heap.size wr w0 ∧ w0.heap.size = wr.heap.size + 1 ∧ Dx w0 wr.heap.size k x y q := ⟨_, rfl, bal _ _, by simp, ⟨heap_alloc_new wr _⟩⟩
        rw [ed]
        clear X0 X1 X2 X3 d0 d1 d2 d3 jw j1 ed
        obtain ⟨D0_, D1_, D2_, D3_⟩ := D.all
        have D7_ := Joins.unfrozen_of_block D.blk 3
        go_upto_region 10 with (fail)
        obtain ⟨we, ee, hbe, hse, Dl⟩ : ∃ w0, wd.setCell ⟨wr.heap.size, 3, none⟩ (.int .u8 lim) = w0 ∧ Below wr.heap.size wr w0 ∧ w0.heap.size = wd.heap.size ∧ Dx w0 wr.heap.size k x y lim := ⟨_, rfl, bset hbd _ _ (Nat.le_refl _) _, set_size _ _ _, ⟨by rw [Joins.block_setCell D.blk]; rfl⟩⟩
        rw [ee]
        have HXd := hide (HX.out.below hbe)
        clear D0_ D1_ D2_ D3_ D7_ D ee hbd
        obtain ⟨D0_, D1_, D2_, D3_⟩ := Dl.all
        obtain ⟨X0, X1, X2, X3⟩ := HXd.out.all
        clear Dl
        go_wp2_with fail
        (with_reducible refine (do_w k x y lim HUV.out a b c _ l _ HXd.out.ints HBG.out a1 b1 c1 l1 z HR.out HN1.out).mono ?_)
        rintro e w2 ⟨A1, n1, rfl, ⟨hm1, hm2⟩, HO, hb2⟩
        obtain ⟨w3, e3, hx3, hs3⟩ := HXd.out.next hb2 HO a1 b1 c1
        have HE3 := hide e3
        have HX3 := hide hx3
        have HXe := hide (HXd.out.below hb2)
        clear e3 hx3 HO X0 X1 X2 X3 D0_ D1_ D2_ D3_
        obtain ⟨Y0, Y1, Y2, Y3⟩ := HXe.out.all
        obtain ⟨Y4, Y5, Y6, Y7⟩ := HXe.out.free
        go_upto_region 11 with (fail)
        rw [HE3.out]
        clear Y0 Y1 Y2 Y3 Y4 Y5 Y6 Y7 hb2 HXe HXd hs3
        obtain ⟨X0, X1, X2, X3⟩ := HX3.out.all
        go_wp2
        go_loopw [11] (fun kv wq => ∃ k : Nat, k ≤ z ∧ kv = .int .i64 k ∧ wq = w3) (fun kv _ => z - (Go.RowKit.intOf kv).toNat)
        case atStart => exact ⟨0, Nat.zero_le _, rfl, rfl⟩
        case round =>
          obtain ⟨j, hj, rfl, rfl⟩ := hrel
          by_cases hjl : j < z
          · have hjl1 : j < l1.length := by rw [HN1.out]; exact hjl
            obtain ⟨g2, off2, rfl, -, y0⟩ := ints_at HX3.out.ints hjl1
            have hu := HM1.out _ (List.getElem_mem hjl1)
            generalize l1[j] = u at *
            have hnu : ¬ u < -L := by omega
            go_wp2
            go_roundw
            case rel => exact ⟨j + 1, by omega, by go_num, trivial⟩
            case measure => simp [Go.RowKit.intOf]; omega
          · go_wp2
            go_roundw
            case rel => exact ⟨X + 1, a1, b1, c1, l1, A1, n1, by omega, by omega, by go_num, ⟨hm1, hm2⟩, HX3, HA1, HM1⟩
            case measure => simp [Go.RowKit.intOf]; omega
      · go_wp2
        go_ret
        exact ⟨rfl, HX.out.b⟩
    · go_wp2
      go_ret
      exact ⟨rfl, HX.out.b⟩

set_option maxRecDepth 100000 in
theorem lifted (os : Os) (started : os.Started) (H : Type) (enc : TypeId × Value → H) :
    ReturnsInHanded {} Try.checked os 5 .any (Rows.ledgerLimitSpec.pre6 enc Try.prog Try.f5 Rows.ledgerLimitRow.domain false) (Rows.ledgerLimitSpec.post enc Try.prog Try.f5 false true false false) := by
  refine returnsInHanded_of_change_sized (C := Try.checked) ownL started (by kernel_rfl) Try.func5
    (ChangeSpec.witness6 (enc := enc) (C := Try.checked) false ⟨#[], #[.int .u8 0, .int .u8 0, .slice none 0 0], []⟩ 8 (by kernel_rfl) (by kernel_rfl) (by kernel_rfl) (by kernel_rfl)) ?_
  intro W base args ds gs before hval hW _ hsz0 _
  have hW' := hW
  obtain ⟨p, q, hA0, hV, rfl, hfz, hnd⟩ := hW
  have hA : DataW.TrodAll enc Try.prog W 0 (fun _ => true) true Try.f5.params.toList args.toList ds p := hA0
  rw [Try.params5] at hA hval
  obtain ⟨v0, vs0, d0, ds0, p0, q0, hargs, rfl, rfl, h0, r0⟩ := trodAll_cons hA
  obtain ⟨v1, vs1, d1, ds1, p1, q1, rfl, rfl, rfl, h1, r1⟩ := trodAll_cons r0
  obtain ⟨v2, vs2, d2, ds2, p2, q2, rfl, rfl, rfl, h2, r2⟩ := trodAll_cons r1
  obtain ⟨rfl, rfl, rfl⟩ := trodAll_nil r2
  obtain rfl : args = #[v0, v1, v2] := by cases args; simp_all
  obtain ⟨rfl, rfl⟩ := trodVars_none hV
  obtain ⟨a0, rfl, rfl, rfl, w0⟩ := open_int Try.underlying5 (hval 0 5 v0 rfl rfl) h0
  have hx0 : 0 ≤ a0 ∧ a0 ≤ 255 := by simpa [Lit.wf, IntKind.min, IntKind.max, IntKind.signed, IntKind.bits] using w0
  obtain ⟨a1, rfl, rfl, rfl, w1⟩ := open_int Try.underlying5 (hval 1 5 v1 rfl rfl) h1
  have hx1 : 0 ≤ a1 ∧ a1 ≤ 255 := by simpa [Lit.wf, IntKind.min, IntKind.max, IntKind.signed, IntKind.bits] using w1
  obtain ⟨l2, hl2, hq2, hd2⟩ := open_deeds (hval 2 49 v2 rfl rfl) h2
  have hsz : (DataW.weightsEach Try.prog [5, 5, 49] ([.lit (.int .u8 a0), .lit (.int .u8 a1), d2] : List (DataW H))).all (· ≤ reachBytes) = true := hsz0
  have e2 : l2.length * 4 ≤ 140737488351232 := slice_reach hsz 2 rfl rfl Try.underlying49 (by kernel_rfl) hd2
  refine (walk a0 a1 hx0 hx1 v2 l2 hq2 W hl2).mono fun e W' ⟨he, hg⟩ => ?_
  subst he
  exact ⟨_, rfl, law_post laidOutL (by kernel_rfl) rfl Try.underlying4 rfl ⟨rfl, rfl, rfl⟩ hW' hg⟩

/-- THE STATEMENT -/
theorem proved : Rows.LedgerLimitSaid :=
  OpenClaim.holds_of_wide 5 Try.f5 rfl rfl rfl rfl rfl rfl rfl ⟨rfl, rfl, rfl, rfl, rfl⟩ rfl rfl rfl rfl rfl (by kernel_rfl) Try.func5 (by kernel_rfl)
    (of_decide_eq_true (by kernel_rfl)) (by unfold Func.isWrapper; first | (rw [if_pos (by decide +kernel)]; kernel_rfl) | (rw [if_neg (by decide +kernel)]; exact ⟨rfl, rfl⟩))
    (fun os started H enc _ => lifted os started H enc)
end Go.Proofs.Ytgbkphgclpgppaa.lawLedgerLimit
