/- LedgerLacks: of any deeds: who lacks so much may spend just when it has that much more; who lacks nothing may. No condition. -/
import Derived.Test.YtgbkphgclpgppaaLedgerOpen
import Derived.Deep.Cut
import Derived.StillTailTactics
namespace Go.Proofs.Ytgbkphgclpgppaa.lawLedgerLacks
open Go.RowKit Go.WideShapes Go.ChangeShapes Go.ChangeAt Go.Proofs Go.Proofs.Ytgbkphgclpgppaa

set_option maxRecDepth 100000 in
set_option maxHeartbeats 8000000 in
theorem walk (v : Value) (ds : List Dg) (hU : ∀ d ∈ ds, DgU d) (who price limit : Int) (hwho : 0 ≤ who ∧ who ≤ 255) (hpr : 0 ≤ price ∧ price ≤ 65535) (hli : 0 ≤ limit ∧ limit ≤ 65535) (w : World) (h : Dgs w v ds) :
    Calls Try.prog 6 #[v, .int .u8 who, .int .u16 price, .int .u16 limit] w fun e w' => e = .returned (.bool true) ∧ Below w.heap.size w w' := by
  obtain ⟨j, hj⟩ : ∃ j : Nat, who % 3 = (j : Int) := ⟨(who % 3).toNat, by omega⟩
  have hj3 : j < 3 := by omega
  have tj := tm (x := who) hwho 3
  rw [hj] at tj
  clear hj
  have hB : Below w.heap.size w w := Below.refl _ _
  have HD := hide h
  have HU := hide hU
  obtain ⟨D0, dcap, rfl, hd1, hd2, -⟩ := id h
  unfold maxLen at hd2
  clear h hU
  go_enter Try.func6, Try.ntmps6
  go_wp2_with fail
  (with_reducible refine (examples_any _).mono ?_)
  rintro e w1 ⟨rfl, hb1⟩
  replace hB := bcall hB hb1
  have hs1 := hb1.size
  clear hb1
  go_wp2_with fail
  (with_reducible refine (New_c 3 [0, 0, 0] 3 rfl rfl _).mono ?_)
  rintro e w2 ⟨A2, c2, rfl, p2, GN, hb2⟩
  replace hB := bcall hB hb2
  have hs2 := hb2.size
  clear hb2
  have GN := hide GN
  obtain ⟨w3, e3, hb3, hs3, BX⟩ := lbox w2 (0) (0) (0) (.slice A2 3 c2) 24
  have HE3 := hide e3
  have BX := hide BX
  clear e3
  replace GN := hide (GN.out.below hb3)
  replace hB := bcall hB hb3
  clear hb3
  go_upto_region 5 with (fail)
  rw [HE3.out]
  have HX := hide (show XAt w w2.heap.size 0 0 0 (.slice A2 3 c2) (List.replicate 3 0) w3 from ⟨BX.out, GN.out, hB, by omega⟩)
  obtain ⟨B, hBB⟩ : ∃ B, w2.heap.size = B := ⟨_, rfl⟩
  rw [hBB] at HX ⊢
  clear BX GN hB
  go_wp2
  go_loopw [11] (fun iv wr => ∃ (X : Nat) (a b c : Int) (l : List Int) (A : Option Addr) (n : Nat), X ≤ ds.length ∧ X ≤ 100 ∧ iv = .int .i64 X ∧ (3 ≤ n ∧ n ≤ 9223372036854775807) ∧ Hid (XAt w B a b c (.slice A 3 n) l wr) ∧ Hid (At 3 ds X a b c l)) (fun iv _ => 100 - (Go.RowKit.intOf iv).toNat)
  case atStart => exact ⟨0, 0, 0, 0, _, A2, c2, Nat.zero_le _, Nat.zero_le _, rfl, p2, HX, hide (At.start (by omega) ds)⟩
  clear HX p2
  case round =>
    obtain ⟨X, a, b, c, l, A, n, hX1, hX2, rfl, ⟨hn1, hn2⟩, HX, HA⟩ := hrel
    have HD1 := hide (HD.out.below HX.out.b)
    by_cases hlt : X < ds.length
    · by_cases h3 : X < 100
      · obtain ⟨⟨k, x, y, q⟩, hd⟩ : ∃ d : Dg, ds[X] = d := ⟨_, rfl⟩
        have hu : DgU ⟨k, x, y, q⟩ := by rw [← hd]; exact HU.out _ (List.getElem_mem hlt)
        have HUU := hide hu
        clear hu
        obtain ⟨g, off, rfl, hg, d0, d1, d2, d3⟩ := dg_at HD1.out hlt hd
        obtain ⟨⟨a1, b1, c1, l1⟩, hR⟩ : ∃ R, lDo ⟨a, b, c, l⟩ k x y q = R := ⟨_, rfl⟩
        have HA1 := hide (HA.out.next hlt hd hR)
        have HI0 := hide (HA.out.inv (by omega) hX1 (by omega))
        have HI1 := hide (HA1.out.inv (by omega) (by omega) (by omega))
        have hll : l.length = 3 := HI0.out.len
        have hbig : l.length * 8 ≤ 140737488351232 := by omega
        have HBG := hide hbig
        have HL1 := hide (show l1.length = 3 from HI1.out.len)
        have HR := hide hR
        clear hR hd hll hbig
        have HXd := hide HX.out.drew
        obtain ⟨X0, X1, X2, X3⟩ := HX.out.all
        have jw : IntKind.i64.wrap (X : Int) = (X : Int) := by rw [wrap_s]; exact s64_small (by omega) (by omega)
        have j1 : (X : Int) < (ds.length : Int) := by omega
        go_wp2
        go_still_tail 5, (by kernel_rfl)
        change wpList _ _ _ _ _ wr.drew
        go_wp2_with fail
        (with_reducible refine (do_w k x y q HUU.out a b c _ l _ HXd.out.ints HBG.out a1 b1 c1 l1 3 HR.out HL1.out).mono ?_)
        rintro e w2 ⟨A1, n1, rfl, ⟨hm1, hm2⟩, HO, hb2⟩
        obtain ⟨w3, e3, hx3, hs3⟩ := HXd.out.next hb2 HO a1 b1 c1
        have HE3 := hide e3
        have HX3 := hide hx3
        have HXe := hide (HXd.out.below hb2)
        clear e3 hx3 HO X0 X1 X2 X3 d0 d1 d2 d3 jw j1
        obtain ⟨Y0, Y1, Y2, Y3⟩ := HXe.out.all
        obtain ⟨Y4, Y5, Y6, Y7⟩ := HXe.out.free
        go_wp2
        rw [HE3.out]
        go_roundw
        case rel => exact ⟨X + 1, a1, b1, c1, l1, A1, n1, by omega, by omega, by go_num, ⟨hm1, hm2⟩, HX3, HA1⟩
        case measure => simp [Go.RowKit.intOf]; omega
      · have HI := hide (HA.out.inv (by omega) hX1 (by omega))
        have hl3 : l.length = 3 := HI.out.len
        have hjl : j < l.length := by omega
        have hbal : -(8 * (X : Int)) ≤ l[j] ∧ l[j] ≤ 8 * (X : Int) := HI.out.bal _ (List.getElem_mem hjl)
        have hsp := HI.out.sp
        simp only at hsp
        have hP : 0 ≤ price ∧ price ≤ 1000000 ∧ 0 ≤ limit ∧ limit ≤ 1000000 := by omega
        have hbig : l.length * 8 ≤ 140737488351232 := by omega
        have HBG := hide hbig
        have gj : lGet ⟨a, b, c, l⟩ ((j : Int) + 1) = l[j] := get_at (l := ⟨a, b, c, l⟩) hjl
        have e8 : 1 + (j : Int) = (j : Int) + 1 := by omega
        have jw : IntKind.i64.wrap (j : Int) = (j : Int) := by rw [wrap_s]; exact s64_small (by omega) (by omega)
        have j1 : (j : Int) < 3 := by omega
        have pw : IntKind.i64.wrap price = price := by rw [wrap_s]; exact s64_small (by omega) (by omega)
        have lw : IntKind.i64.wrap limit = limit := by rw [wrap_s]; exact s64_small (by omega) (by omega)
        cases hM : lMay ⟨a, b, c, l⟩ ((j : Int) + 1) price limit
        · obtain ⟨k1, k2, k3⟩ := lacks_no HI.out (by omega) (i := j) hjl hP hM
          rw [gj] at k1 k3
          obtain ⟨R, hR⟩ : ∃ R, lLacks ⟨a, b, c, l⟩ ((j : Int) + 1) price limit = R := ⟨_, rfl⟩
          rw [hR] at k1 k2 k3
          have hS : lSpend ⟨a, b, c, l⟩ ((j : Int) + 1) price limit = ⟨a, b, c, l⟩ := by unfold lSpend; rw [hM]; rfl
          obtain ⟨p1, p2⟩ := may_more (a := a) (b := b) (c := c) (bal := l) (i := j) hjl hP
          obtain ⟨pl, hpl⟩ : ∃ pl, price - limit = pl := ⟨_, rfl⟩
          rw [hpl] at k3 p1 p2
          have hplb : -65535 ≤ pl ∧ pl ≤ 65535 := by omega
          have f1 : IntKind.i64.wrap (l[j] + R) = pl := by rw [wrap_s]; exact k3
          have f2 : IntKind.i64.wrap (pl - 1) = pl - 1 := by rw [wrap_s]; exact s64_small (by omega) (by omega)
          have p2' : lMay ⟨a, b, c, (l.set j pl).set j (pl - 1)⟩ ((j : Int) + 1) price limit = false := by rw [List.set_set]; exact p2
          have hS := hide hS
          have HK := hide hR
          have HM := hide hM
          have HP1 := hide p1
          have HP2 := hide p2'
          have HJL := hide hjl
          have HL3 := hide hl3
          have hjs : j < (l.set j pl).length := by rw [List.length_set]; exact hjl
          have HJS := hide hjs
          have hls : (l.set j pl).length = 3 := by rw [List.length_set]; exact hl3
          have HLS := hide hls
          have hgs : (l.set j pl)[j] = pl := List.getElem_set_self _
          have HGS := hide hgs
          clear k1 k3 gj hM hR p1 p2 p2' hpl hgs hls hjs hbig
          obtain ⟨X0, X1, X2, X3⟩ := HX.out.all
          go_wp2_with fail
          (with_reducible refine (Lacks_c a b c _ l ((j : Int) + 1) price limit _ HX.out.ints R HK.out).mono ?_)
          rintro e w2 ⟨rfl, hb2⟩
          have HX2 := hide (HX.out.below hb2)
          clear X0 X1 X2 X3 hb2
          obtain ⟨X0, X1, X2, X3⟩ := HX2.out.all
          go_wp2_with fail
          (with_reducible refine (May_c a b c _ l ((j : Int) + 1) price limit _ HX2.out.ints false HM.out).mono ?_)
          rintro e w3 ⟨rfl, hb3⟩
          have HX3 := hide (HX2.out.below hb3)
          clear X0 X1 X2 X3 hb3
          obtain ⟨X0, X1, X2, X3⟩ := HX3.out.all
          go_wp2_with fail
          (with_reducible refine (Spend_c a b c _ l ((j : Int) + 1) price limit _ HX3.out.ints HBG.out a b c l 3 false hS.out HM.out HL3.out).mono ?_)
          rintro e w4 ⟨A4, n4, rfl, ⟨hm1, hm2⟩, -, hb4⟩
          have HX4 := hide (HX3.out.below hb4)
          clear X0 X1 X2 X3 hb4
          obtain ⟨w5, e5, hb5, hs5, T⟩ := lbox w4 a b c (.slice A4 3 n4) 24
          have HE5 := hide e5
          have HX5 := hide (HX4.out.below hb5)
          have HS5 := hide hs5
          clear e5 hb5 T hs5
          go_upto_region 17 with (fail)
          rw [HE5.out]
          obtain ⟨X0, X1, X2, X3⟩ := HX5.out.all
          obtain ⟨w6, e6, hb6, hs6, M⟩ := lbox w5 a b c (.slice A 3 n) 24
          have HE6 := hide e6
          have HX6 := hide (HX5.out.below hb6)
          have M := hide M
          have HS6 := hide hs6
          clear e6 hb6 hs6
          go_upto_region 18 with (fail)
          rw [HE6.out]
          clear X0 X1 X2 X3
          obtain ⟨X0, X1, X2, X3⟩ := HX6.out.all
          have hl3' := HL3.out
          obtain ⟨i0, hi, hz0, hz1, hz2⟩ := info_parts infoI
          go_wp2_with (at_builtin; refine wpList_append_sl _ rfl _ _ 22 rfl w6.heap.size 2 i0 (.int .i64 0) 1 8 Try.underlying22 hi hz0 hz1 hz2 rfl (by decide) _ _ _ rfl (World.ownsRow_nil _ _ _ _) _ l rfl HX6.out.ints ic_len (fun _ u hu => by simp [ic] at hu; subst hu; rfl) (by unfold maxLen; omega) (by omega) (by simp) ?_)
          intro v7 w7 hown hb7
          (try rw [Nat.zero_add, List.nil_append] at hown)
          have HB7 := hide (bcall HX6.out.b hb7)
          have hs7 := hb7.size
          have M7 := hide (M.out.below hb7)
          clear X0 X1 X2 X3 M hb7
          obtain ⟨g1, m1, rfl, q1, q2, q3, q4⟩ := own_atN HL3.out hown HJL.out
          have HO1 := hide hown
          clear hown
          obtain ⟨M0, M1, M2, M3⟩ := M7.out.all
          obtain ⟨M4, M5, M6, M7_⟩ := M7.out.free
          go_upto_region 19 with (fail)
          obtain ⟨w8, e8_⟩ : ∃ w8, w7.setCell ⟨w5.heap.size, 3, none⟩ (.slice (some ⟨g1, 0, none⟩) 3 m1) = w8 := ⟨_, rfl⟩
          rw [e8_]
          have hz6 := HS6.out
          have hz5 := HS5.out
          have M8 := hide (show Bx 24 w8 w5.heap.size a b c (.slice (some ⟨g1, 0, none⟩) 3 m1) by rw [← e8_]; exact M7.out.put3 _)
          have HO8 := hide (show w8.ownsRow w6.heap.size 2 1 (.slice (some ⟨g1, 0, none⟩) 3 m1) 3 (l.flatMap ic) by rw [← e8_]; exact ownsRow_setCell_below HO1.out (by simp; omega) _)
          have hlt4 : w.heap.size ≤ w4.heap.size := HX4.out.b.size
          have HB8 := hide (show Below w.heap.size w w8 by rw [← e8_]; exact bset HB7.out _ _ (by omega) _)
          have hs8 : w8.heap.size = w7.heap.size := by rw [← e8_]; exact set_size _ _ _
          have HS8 := hide hs8
          have hne1 : w5.heap.size ≠ g1 := by omega
          have HNE1 := hide hne1
          clear e8_ M7 HO1 HB7 M0 M1 M2 M3 M4 M5 M6 M7_ hz6 hz5 hs8
          obtain ⟨y0, y1⟩ := own_cell HO8.out HJL.out HL3.out
          obtain ⟨M0, M1, M2, M3⟩ := M8.out.all
          have HO9 := hide (own_store HO8.out j pl)
          have y0 : w8.cell? ⟨g1, j, none⟩ = some (.int .i64 l[j]) := y0
          generalize l[j] = u at *
          go_wp2
          go_still_tail 13, (by kernel_rfl)
          change wpList _ _ _ _ _ w8.drew
          go_upto_region 20 with (fail)
          obtain ⟨w9, e9_⟩ : ∃ w9, (w8.setCell ⟨g1, j, none⟩ (.int .i64 pl)).drew = w9 := ⟨_, rfl⟩
          rw [e9_]
          have hz6 := HS6.out
          have hz5 := HS5.out
          have hz8 := HS8.out
          have M9 := hide (show Bx 24 w9 w5.heap.size a b c (.slice (some ⟨g1, 0, none⟩) 3 m1) by rw [← e9_]; exact (M8.out.other _ HNE1.out).drew)
          have HO9 := hide (show w9.ownsRow w6.heap.size 2 1 (.slice (some ⟨g1, 0, none⟩) 3 m1) 3 ((l.set j pl).flatMap ic) by rw [← e9_]; exact row_drew HO9.out)
          have HB9 := hide (show Below w.heap.size w w9 by rw [← e9_]; exact below_drew (bset HB8.out _ _ (by omega) _))
          clear e9_ M8 HO8 HB8 M0 M1 M2 M3 y0 y1 f1 hne1 hz6 hz5 hz8 HX6 HX5 HX4 HX3 HX2
          obtain ⟨M0, M1, M2, M3⟩ := M9.out.all
          obtain ⟨w10, e10, hb10, hs10, T⟩ := lbox w9 a b c (.slice (some ⟨g1, 0, none⟩) 3 m1) 24
          have HE10 := hide e10
          have T := hide T
          have M10 := hide (M9.out.below hb10)
          have HO10 := hide (own_below HO9.out hb10)
          have HB10 := hide (bcall HB9.out hb10)
          have HS10 := hide hs10
          have HA10 := hide hb10
          clear e10 hs10 hb10
          go_upto_region 21 with (fail)
          rw [HE10.out]
          clear M0 M1 M2 M3
          obtain ⟨M0, M1, M2, M3⟩ := M10.out.all
          have hls := HLS.out
          go_wp2_with (at_builtin; refine wpList_append_sl _ rfl _ _ 22 rfl w10.heap.size 2 i0 (.int .i64 0) 1 8 Try.underlying22 hi hz0 hz1 hz2 rfl (by decide) _ _ _ rfl (World.ownsRow_nil _ _ _ _) _ (l.set j pl) rfl (ints_ofN HLS.out HO10.out) ic_len (fun _ u hu => by simp [ic] at hu; subst hu; rfl) (by unfold maxLen; omega) (by omega) (by simp) ?_)
          intro v11 w11 hown hb11
          (try rw [Nat.zero_add, List.nil_append] at hown)
          (try rw [HLS.out] at hown)
          have HB11 := hide (bcall HB10.out hb11)
          have hs11 := hb11.size
          have T11 := hide (T.out.below hb11)
          have HA11 := hide (bcall HA10.out hb11)
          clear M0 M1 M2 M3 T hb11
          obtain ⟨g2, m2, rfl, r1, r2, r3, r4⟩ := own_atN HLS.out hown HJS.out
          have HO11 := hide hown
          clear hown
          obtain ⟨M0, M1, M2, M3⟩ := T11.out.all
          obtain ⟨M4, M5, M6, M7_⟩ := T11.out.free
          go_upto_region 22 with (fail)
          obtain ⟨w12, e12⟩ : ∃ w12, w11.setCell ⟨w9.heap.size, 3, none⟩ (.slice (some ⟨g2, 0, none⟩) 3 m2) = w12 := ⟨_, rfl⟩
          rw [e12]
          have hz10 := HS10.out
          have T12 := hide (show Bx 24 w12 w9.heap.size a b c (.slice (some ⟨g2, 0, none⟩) 3 m2) by rw [← e12]; exact T11.out.put3 _)
          have HO12 := hide (show w12.ownsRow w10.heap.size 2 1 (.slice (some ⟨g2, 0, none⟩) 3 m2) 3 ((l.set j pl).flatMap ic) by rw [← e12]; exact ownsRow_setCell_below HO11.out (by simp; omega) _)
          have hlt9 : w.heap.size ≤ w9.heap.size := HB9.out.size
          have HB12 := hide (show Below w.heap.size w w12 by rw [← e12]; exact bset HB11.out _ _ (by omega) _)
          have HA12 := hide (show Below w9.heap.size w9 w12 by rw [← e12]; exact bset HA11.out _ _ (Nat.le_refl _) _)
          have hne2 : w9.heap.size ≠ g2 := by omega
          have HNE2 := hide hne2
          have hge2 : w9.heap.size ≤ g2 := by omega
          have HGE2 := hide hge2
          clear e12 T11 HO11 HB11 HA11 M0 M1 M2 M3 M4 M5 M6 M7_ hz10 hge2
          obtain ⟨y0, y1⟩ := own_cell HO12.out HJS.out HLS.out
          replace y0 := y0.trans (congrArg (fun z => some (Value.int .i64 z)) HGS.out)
          obtain ⟨M0, M1, M2, M3⟩ := T12.out.all
          have HO13 := hide (own_store HO12.out j (pl - 1))
          go_upto_region 23 with (fail)
          obtain ⟨w13, e13⟩ : ∃ w13, w12.setCell ⟨g2, j, none⟩ (.int .i64 (pl - 1)) = w13 := ⟨_, rfl⟩
          rw [e13]
          have T13 := hide (show Bx 24 w13 w9.heap.size a b c (.slice (some ⟨g2, 0, none⟩) 3 m2) by rw [← e13]; exact T12.out.other _ HNE2.out)
          rw [e13] at HO13
          have HA13 := hide (show Below w9.heap.size w9 w13 by rw [← e13]; exact bset HA12.out _ _ HGE2.out _)
          have HB13 := hide (show Below w.heap.size w w13 by rw [← e13]; exact bset HB12.out _ _ (Nat.le_trans hlt9 HGE2.out) _)
          have M13 := hide (M9.out.below HA13.out)
          have HI13 := hide (ints_ofN HLS.out (own_below HO9.out HA13.out))
          have HJ13 := hide (ints_ofN (l := (l.set j pl).set j (pl - 1)) (by rw [List.length_set]; exact HLS.out) HO13.out)
          clear e13 T12 HO12 HB12 HA12 M0 M1 M2 M3 y0 y1
          obtain ⟨M0, M1, M2, M3⟩ := M13.out.all
          go_wp2_with fail
          (with_reducible refine (May_c a b c _ (l.set j pl) ((j : Int) + 1) price limit _ HI13.out true HP1.out).mono ?_)
          rintro e w14 ⟨rfl, hb14⟩
          have HB14 := bcall HB13.out hb14
          have T14 := hide (T13.out.below hb14)
          have HJ14 := hide (HJ13.out.below hb14)
          clear M0 M1 M2 M3 hb14
          obtain ⟨M0, M1, M2, M3⟩ := T14.out.all
          go_wp2_with fail
          (with_reducible refine (May_c a b c _ ((l.set j pl).set j (pl - 1)) ((j : Int) + 1) price limit _ HJ14.out false HP2.out).mono ?_)
          rintro e w15 ⟨rfl, hb15⟩
          have HB15 := bcall HB14 hb15
          go_wp2
          go_ret
          exact ⟨rfl, HB15⟩
        · obtain ⟨r, hr⟩ : ∃ r, l.set j (l[j] - price) = r := ⟨_, rfl⟩
          have hS := spend_yes HI.out (by omega) (i := j) hjl hP hM
          simp only [hr] at hS
          have hS := hide hS
          have HK := hide (lacks_yes hM)
          have HM := hide hM
          have hrl : r.length = 3 := by rw [← hr, List.length_set]; exact hl3
          have HLEN := hide hrl
          have hjs : j < r.length := by omega
          have HJS := hide hjs
          have HJL := hide hjl
          have hgs : r[j] = l[j] - price := by subst hr; exact List.getElem_set_self _
          have g1 : IntKind.i64.wrap (l[j] - price) = r[j] := by rw [hgs, wrap_s]; exact s64_small (by omega) (by omega)
          have g2 : IntKind.i64.wrap (b + price) = b + price := by rw [wrap_s]; exact s64_small (by omega) (by omega)
          clear hgs gj hM hl3 hbig hr hrl
          obtain ⟨X0, X1, X2, X3⟩ := HX.out.all
          go_wp2_with fail
          (with_reducible refine (Lacks_c a b c _ l ((j : Int) + 1) price limit _ HX.out.ints 0 HK.out).mono ?_)
          rintro e w2 ⟨rfl, hb2⟩
          have HX2 := hide (HX.out.below hb2)
          clear X0 X1 X2 X3 hb2
          obtain ⟨X0, X1, X2, X3⟩ := HX2.out.all
          go_wp2_with fail
          (with_reducible refine (May_c a b c _ l ((j : Int) + 1) price limit _ HX2.out.ints true HM.out).mono ?_)
          rintro e w3 ⟨rfl, hb3⟩
          have HX3 := hide (HX2.out.below hb3)
          clear X0 X1 X2 X3 hb3
          obtain ⟨X0, X1, X2, X3⟩ := HX3.out.all
          go_wp2_with fail
          (with_reducible refine (Spend_c a b c _ l ((j : Int) + 1) price limit _ HX3.out.ints HBG.out a (b + price) c r 3 true hS.out HM.out HLEN.out).mono ?_)
          rintro e w4 ⟨A1, n1, rfl, ⟨hm1, hm2⟩, HG, hb4⟩
          have HX4 := hide (HX3.out.below hb4)
          have HG := hide HG
          clear X0 X1 X2 X3 hb4
          clear hS HLEN
          obtain ⟨w5, e5, hb5, hs5, T⟩ := lbox w4 a (b + price) c (.slice A1 3 n1) 24
          have HE5 := hide e5
          have HX5 := hide (HX4.out.below hb5)
          have HG5 := hide (HG.out.below hb5)
          have T := hide T
          clear e5 hb5
          go_upto_region 15 with (fail)
          rw [HE5.out]
          obtain ⟨X0, X1, X2, X3⟩ := HX5.out.all
          obtain ⟨T0, T1, T2, T3⟩ := T.out.all
          obtain ⟨g, off, rfl, -, y0⟩ := ints_at HX5.out.ints HJL.out
          obtain ⟨g3, off3, rfl, -, y1⟩ := ints_at HG5.out HJS.out
          have hB5 := HX5.out.b
          generalize l[j] = u at *
          generalize r[j] = u1 at *
          go_wp2
          go_quiet (fail)
          go_wp2
          go_ret
          exact ⟨rfl, bdrewN hB5 _⟩
    · have HI := hide (HA.out.inv (by omega) hX1 (by omega))
      have hl3 : l.length = 3 := HI.out.len
      have hjl : j < l.length := by omega
      have hbal : -(8 * (X : Int)) ≤ l[j] ∧ l[j] ≤ 8 * (X : Int) := HI.out.bal _ (List.getElem_mem hjl)
      have hsp := HI.out.sp
      simp only at hsp
      have hP : 0 ≤ price ∧ price ≤ 1000000 ∧ 0 ≤ limit ∧ limit ≤ 1000000 := by omega
      have hbig : l.length * 8 ≤ 140737488351232 := by omega
      have HBG := hide hbig
      have gj : lGet ⟨a, b, c, l⟩ ((j : Int) + 1) = l[j] := get_at (l := ⟨a, b, c, l⟩) hjl
      have e8 : 1 + (j : Int) = (j : Int) + 1 := by omega
      have jw : IntKind.i64.wrap (j : Int) = (j : Int) := by rw [wrap_s]; exact s64_small (by omega) (by omega)
      have j1 : (j : Int) < 3 := by omega
      have pw : IntKind.i64.wrap price = price := by rw [wrap_s]; exact s64_small (by omega) (by omega)
      have lw : IntKind.i64.wrap limit = limit := by rw [wrap_s]; exact s64_small (by omega) (by omega)
      cases hM : lMay ⟨a, b, c, l⟩ ((j : Int) + 1) price limit
      · obtain ⟨k1, k2, k3⟩ := lacks_no HI.out (by omega) (i := j) hjl hP hM
        rw [gj] at k1 k3
        obtain ⟨R, hR⟩ : ∃ R, lLacks ⟨a, b, c, l⟩ ((j : Int) + 1) price limit = R := ⟨_, rfl⟩
        rw [hR] at k1 k2 k3
        have hS : lSpend ⟨a, b, c, l⟩ ((j : Int) + 1) price limit = ⟨a, b, c, l⟩ := by unfold lSpend; rw [hM]; rfl
        obtain ⟨p1, p2⟩ := may_more (a := a) (b := b) (c := c) (bal := l) (i := j) hjl hP
        obtain ⟨pl, hpl⟩ : ∃ pl, price - limit = pl := ⟨_, rfl⟩
        rw [hpl] at k3 p1 p2
        have hplb : -65535 ≤ pl ∧ pl ≤ 65535 := by omega
        have f1 : IntKind.i64.wrap (l[j] + R) = pl := by rw [wrap_s]; exact k3
        have f2 : IntKind.i64.wrap (pl - 1) = pl - 1 := by rw [wrap_s]; exact s64_small (by omega) (by omega)
        have p2' : lMay ⟨a, b, c, (l.set j pl).set j (pl - 1)⟩ ((j : Int) + 1) price limit = false := by rw [List.set_set]; exact p2
        have hS := hide hS
        have HK := hide hR
        have HM := hide hM
        have HP1 := hide p1
        have HP2 := hide p2'
        have HJL := hide hjl
        have HL3 := hide hl3
        have hjs : j < (l.set j pl).length := by rw [List.length_set]; exact hjl
        have HJS := hide hjs
        have hls : (l.set j pl).length = 3 := by rw [List.length_set]; exact hl3
        have HLS := hide hls
        have hgs : (l.set j pl)[j] = pl := List.getElem_set_self _
        have HGS := hide hgs
        clear k1 k3 gj hM hR p1 p2 p2' hpl hgs hls hjs hbig
        obtain ⟨X0, X1, X2, X3⟩ := HX.out.all
        go_wp2_with fail
        (with_reducible refine (Lacks_c a b c _ l ((j : Int) + 1) price limit _ HX.out.ints R HK.out).mono ?_)
        rintro e w2 ⟨rfl, hb2⟩
        have HX2 := hide (HX.out.below hb2)
        clear X0 X1 X2 X3 hb2
        obtain ⟨X0, X1, X2, X3⟩ := HX2.out.all
        go_wp2_with fail
        (with_reducible refine (May_c a b c _ l ((j : Int) + 1) price limit _ HX2.out.ints false HM.out).mono ?_)
        rintro e w3 ⟨rfl, hb3⟩
        have HX3 := hide (HX2.out.below hb3)
        clear X0 X1 X2 X3 hb3
        obtain ⟨X0, X1, X2, X3⟩ := HX3.out.all
        go_wp2_with fail
        (with_reducible refine (Spend_c a b c _ l ((j : Int) + 1) price limit _ HX3.out.ints HBG.out a b c l 3 false hS.out HM.out HL3.out).mono ?_)
        rintro e w4 ⟨A4, n4, rfl, ⟨hm1, hm2⟩, -, hb4⟩
        have HX4 := hide (HX3.out.below hb4)
        clear X0 X1 X2 X3 hb4
        obtain ⟨w5, e5, hb5, hs5, T⟩ := lbox w4 a b c (.slice A4 3 n4) 24
        have HE5 := hide e5
        have HX5 := hide (HX4.out.below hb5)
        have HS5 := hide hs5
        clear e5 hb5 T hs5
        go_upto_region 17 with (fail)
        rw [HE5.out]
        obtain ⟨X0, X1, X2, X3⟩ := HX5.out.all
        obtain ⟨w6, e6, hb6, hs6, M⟩ := lbox w5 a b c (.slice A 3 n) 24
        have HE6 := hide e6
        have HX6 := hide (HX5.out.below hb6)
        have M := hide M
        have HS6 := hide hs6
        clear e6 hb6 hs6
        go_upto_region 18 with (fail)
        rw [HE6.out]
        clear X0 X1 X2 X3
        obtain ⟨X0, X1, X2, X3⟩ := HX6.out.all
        have hl3' := HL3.out
        obtain ⟨i0, hi, hz0, hz1, hz2⟩ := info_parts infoI
        go_wp2_with (at_builtin; refine wpList_append_sl _ rfl _ _ 22 rfl w6.heap.size 2 i0 (.int .i64 0) 1 8 Try.underlying22 hi hz0 hz1 hz2 rfl (by decide) _ _ _ rfl (World.ownsRow_nil _ _ _ _) _ l rfl HX6.out.ints ic_len (fun _ u hu => by simp [ic] at hu; subst hu; rfl) (by unfold maxLen; omega) (by omega) (by simp) ?_)
        intro v7 w7 hown hb7
        (try rw [Nat.zero_add, List.nil_append] at hown)
        have HB7 := hide (bcall HX6.out.b hb7)
        have hs7 := hb7.size
        have M7 := hide (M.out.below hb7)
        clear X0 X1 X2 X3 M hb7
        obtain ⟨g1, m1, rfl, q1, q2, q3, q4⟩ := own_atN HL3.out hown HJL.out
        have HO1 := hide hown
        clear hown
        obtain ⟨M0, M1, M2, M3⟩ := M7.out.all
        obtain ⟨M4, M5, M6, M7_⟩ := M7.out.free
        go_upto_region 19 with (fail)
        obtain ⟨w8, e8_⟩ : ∃ w8, w7.setCell ⟨w5.heap.size, 3, none⟩ (.slice (some ⟨g1, 0, none⟩) 3 m1) = w8 := ⟨_, rfl⟩
        rw [e8_]
        have hz6 := HS6.out
        have hz5 := HS5.out
        have M8 := hide (show Bx 24 w8 w5.heap.size a b c (.slice (some ⟨g1, 0, none⟩) 3 m1) by rw [← e8_]; exact M7.out.put3 _)
        have HO8 := hide (show w8.ownsRow w6.heap.size 2 1 (.slice (some ⟨g1, 0, none⟩) 3 m1) 3 (l.flatMap ic) by rw [← e8_]; exact ownsRow_setCell_below HO1.out (by simp; omega) _)
        have hlt4 : w.heap.size ≤ w4.heap.size := HX4.out.b.size
        have HB8 := hide (show Below w.heap.size w w8 by rw [← e8_]; exact bset HB7.out _ _ (by omega) _)
        have hs8 : w8.heap.size = w7.heap.size := by rw [← e8_]; exact set_size _ _ _
        have HS8 := hide hs8
        have hne1 : w5.heap.size ≠ g1 := by omega
        have HNE1 := hide hne1
        clear e8_ M7 HO1 HB7 M0 M1 M2 M3 M4 M5 M6 M7_ hz6 hz5 hs8
        obtain ⟨y0, y1⟩ := own_cell HO8.out HJL.out HL3.out
        obtain ⟨M0, M1, M2, M3⟩ := M8.out.all
        have HO9 := hide (own_store HO8.out j pl)
        have y0 : w8.cell? ⟨g1, j, none⟩ = some (.int .i64 l[j]) := y0
        generalize l[j] = u at *
        go_wp2
        go_still_tail 13, (by kernel_rfl)
        change wpList _ _ _ _ _ w8.drew
        go_upto_region 20 with (fail)
        obtain ⟨w9, e9_⟩ : ∃ w9, (w8.setCell ⟨g1, j, none⟩ (.int .i64 pl)).drew = w9 := ⟨_, rfl⟩
        rw [e9_]
        have hz6 := HS6.out
        have hz5 := HS5.out
        have hz8 := HS8.out
        have M9 := hide (show Bx 24 w9 w5.heap.size a b c (.slice (some ⟨g1, 0, none⟩) 3 m1) by rw [← e9_]; exact (M8.out.other _ HNE1.out).drew)
        have HO9 := hide (show w9.ownsRow w6.heap.size 2 1 (.slice (some ⟨g1, 0, none⟩) 3 m1) 3 ((l.set j pl).flatMap ic) by rw [← e9_]; exact row_drew HO9.out)
        have HB9 := hide (show Below w.heap.size w w9 by rw [← e9_]; exact below_drew (bset HB8.out _ _ (by omega) _))
        clear e9_ M8 HO8 HB8 M0 M1 M2 M3 y0 y1 f1 hne1 hz6 hz5 hz8 HX6 HX5 HX4 HX3 HX2
        obtain ⟨M0, M1, M2, M3⟩ := M9.out.all
        obtain ⟨w10, e10, hb10, hs10, T⟩ := lbox w9 a b c (.slice (some ⟨g1, 0, none⟩) 3 m1) 24
        have HE10 := hide e10
        have T := hide T
        have M10 := hide (M9.out.below hb10)
        have HO10 := hide (own_below HO9.out hb10)
        have HB10 := hide (bcall HB9.out hb10)
        have HS10 := hide hs10
        have HA10 := hide hb10
        clear e10 hs10 hb10
        go_upto_region 21 with (fail)
        rw [HE10.out]
        clear M0 M1 M2 M3
        obtain ⟨M0, M1, M2, M3⟩ := M10.out.all
        have hls := HLS.out
        go_wp2_with (at_builtin; refine wpList_append_sl _ rfl _ _ 22 rfl w10.heap.size 2 i0 (.int .i64 0) 1 8 Try.underlying22 hi hz0 hz1 hz2 rfl (by decide) _ _ _ rfl (World.ownsRow_nil _ _ _ _) _ (l.set j pl) rfl (ints_ofN HLS.out HO10.out) ic_len (fun _ u hu => by simp [ic] at hu; subst hu; rfl) (by unfold maxLen; omega) (by omega) (by simp) ?_)
        intro v11 w11 hown hb11
        (try rw [Nat.zero_add, List.nil_append] at hown)
        (try rw [HLS.out] at hown)
        have HB11 := hide (bcall HB10.out hb11)
        have hs11 := hb11.size
        have T11 := hide (T.out.below hb11)
        have HA11 := hide (bcall HA10.out hb11)
        clear M0 M1 M2 M3 T hb11
        obtain ⟨g2, m2, rfl, r1, r2, r3, r4⟩ := own_atN HLS.out hown HJS.out
        have HO11 := hide hown
        clear hown
        obtain ⟨M0, M1, M2, M3⟩ := T11.out.all
        obtain ⟨M4, M5, M6, M7_⟩ := T11.out.free
        go_upto_region 22 with (fail)
        obtain ⟨w12, e12⟩ : ∃ w12, w11.setCell ⟨w9.heap.size, 3, none⟩ (.slice (some ⟨g2, 0, none⟩) 3 m2) = w12 := ⟨_, rfl⟩
        rw [e12]
        have hz10 := HS10.out
        have T12 := hide (show Bx 24 w12 w9.heap.size a b c (.slice (some ⟨g2, 0, none⟩) 3 m2) by rw [← e12]; exact T11.out.put3 _)
        have HO12 := hide (show w12.ownsRow w10.heap.size 2 1 (.slice (some ⟨g2, 0, none⟩) 3 m2) 3 ((l.set j pl).flatMap ic) by rw [← e12]; exact ownsRow_setCell_below HO11.out (by simp; omega) _)
        have hlt9 : w.heap.size ≤ w9.heap.size := HB9.out.size
        have HB12 := hide (show Below w.heap.size w w12 by rw [← e12]; exact bset HB11.out _ _ (by omega) _)
        have HA12 := hide (show Below w9.heap.size w9 w12 by rw [← e12]; exact bset HA11.out _ _ (Nat.le_refl _) _)
        have hne2 : w9.heap.size ≠ g2 := by omega
        have HNE2 := hide hne2
        have hge2 : w9.heap.size ≤ g2 := by omega
        have HGE2 := hide hge2
        clear e12 T11 HO11 HB11 HA11 M0 M1 M2 M3 M4 M5 M6 M7_ hz10 hge2
        obtain ⟨y0, y1⟩ := own_cell HO12.out HJS.out HLS.out
        replace y0 := y0.trans (congrArg (fun z => some (Value.int .i64 z)) HGS.out)
        obtain ⟨M0, M1, M2, M3⟩ := T12.out.all
        have HO13 := hide (own_store HO12.out j (pl - 1))
        go_upto_region 23 with (fail)
        obtain ⟨w13, e13⟩ : ∃ w13, w12.setCell ⟨g2, j, none⟩ (.int .i64 (pl - 1)) = w13 := ⟨_, rfl⟩
        rw [e13]
        have T13 := hide (show Bx 24 w13 w9.heap.size a b c (.slice (some ⟨g2, 0, none⟩) 3 m2) by rw [← e13]; exact T12.out.other _ HNE2.out)
        rw [e13] at HO13
        have HA13 := hide (show Below w9.heap.size w9 w13 by rw [← e13]; exact bset HA12.out _ _ HGE2.out _)
        have HB13 := hide (show Below w.heap.size w w13 by rw [← e13]; exact bset HB12.out _ _ (Nat.le_trans hlt9 HGE2.out) _)
        have M13 := hide (M9.out.below HA13.out)
        have HI13 := hide (ints_ofN HLS.out (own_below HO9.out HA13.out))
        have HJ13 := hide (ints_ofN (l := (l.set j pl).set j (pl - 1)) (by rw [List.length_set]; exact HLS.out) HO13.out)
        clear e13 T12 HO12 HB12 HA12 M0 M1 M2 M3 y0 y1
        obtain ⟨M0, M1, M2, M3⟩ := M13.out.all
        go_wp2_with fail
        (with_reducible refine (May_c a b c _ (l.set j pl) ((j : Int) + 1) price limit _ HI13.out true HP1.out).mono ?_)
        rintro e w14 ⟨rfl, hb14⟩
        have HB14 := bcall HB13.out hb14
        have T14 := hide (T13.out.below hb14)
        have HJ14 := hide (HJ13.out.below hb14)
        clear M0 M1 M2 M3 hb14
        obtain ⟨M0, M1, M2, M3⟩ := T14.out.all
        go_wp2_with fail
        (with_reducible refine (May_c a b c _ ((l.set j pl).set j (pl - 1)) ((j : Int) + 1) price limit _ HJ14.out false HP2.out).mono ?_)
        rintro e w15 ⟨rfl, hb15⟩
        have HB15 := bcall HB14 hb15
        go_wp2
        go_ret
        exact ⟨rfl, HB15⟩
      · obtain ⟨r, hr⟩ : ∃ r, l.set j (l[j] - price) = r := ⟨_, rfl⟩
        have hS := spend_yes HI.out (by omega) (i := j) hjl hP hM
        simp only [hr] at hS
        have hS := hide hS
        have HK := hide (lacks_yes hM)
        have HM := hide hM
        have hrl : r.length = 3 := by rw [← hr, List.length_set]; exact hl3
        have HLEN := hide hrl
        have hjs : j < r.length := by omega
        have HJS := hide hjs
        have HJL := hide hjl
        have hgs : r[j] = l[j] - price := by subst hr; exact List.getElem_set_self _
        have g1 : IntKind.i64.wrap (l[j] - price) = r[j] := by rw [hgs, wrap_s]; exact s64_small (by omega) (by omega)
        have g2 : IntKind.i64.wrap (b + price) = b + price := by rw [wrap_s]; exact s64_small (by omega) (by omega)
        clear hgs gj hM hl3 hbig hr hrl
        obtain ⟨X0, X1, X2, X3⟩ := HX.out.all
        go_wp2_with fail
        (with_reducible refine (Lacks_c a b c _ l ((j : Int) + 1) price limit _ HX.out.ints 0 HK.out).mono ?_)
        rintro e w2 ⟨rfl, hb2⟩
        have HX2 := hide (HX.out.below hb2)
        clear X0 X1 X2 X3 hb2
        obtain ⟨X0, X1, X2, X3⟩ := HX2.out.all
        go_wp2_with fail
        (with_reducible refine (May_c a b c _ l ((j : Int) + 1) price limit _ HX2.out.ints true HM.out).mono ?_)
        rintro e w3 ⟨rfl, hb3⟩
        have HX3 := hide (HX2.out.below hb3)
        clear X0 X1 X2 X3 hb3
        obtain ⟨X0, X1, X2, X3⟩ := HX3.out.all
        go_wp2_with fail
        (with_reducible refine (Spend_c a b c _ l ((j : Int) + 1) price limit _ HX3.out.ints HBG.out a (b + price) c r 3 true hS.out HM.out HLEN.out).mono ?_)
        rintro e w4 ⟨A1, n1, rfl, ⟨hm1, hm2⟩, HG, hb4⟩
        have HX4 := hide (HX3.out.below hb4)
        have HG := hide HG
        clear X0 X1 X2 X3 hb4
        clear hS HLEN
        obtain ⟨w5, e5, hb5, hs5, T⟩ := lbox w4 a (b + price) c (.slice A1 3 n1) 24
        have HE5 := hide e5
        have HX5 := hide (HX4.out.below hb5)
        have HG5 := hide (HG.out.below hb5)
        have T := hide T
        clear e5 hb5
        go_upto_region 15 with (fail)
        rw [HE5.out]
        obtain ⟨X0, X1, X2, X3⟩ := HX5.out.all
        obtain ⟨T0, T1, T2, T3⟩ := T.out.all
        obtain ⟨g, off, rfl, -, y0⟩ := ints_at HX5.out.ints HJL.out
        obtain ⟨g3, off3, rfl, -, y1⟩ := ints_at HG5.out HJS.out
        have hB5 := HX5.out.b
        generalize l[j] = u at *
        generalize r[j] = u1 at *
        go_wp2
        go_quiet (fail)
        go_wp2
        go_ret
        exact ⟨rfl, bdrewN hB5 _⟩

set_option maxRecDepth 100000 in
theorem lifted (os : Os) (started : os.Started) (H : Type) (enc : TypeId × Value → H) :
    ReturnsInHanded {} Try.checked os 6 .any (Rows.ledgerLacksSpec.pre6 enc Try.prog Try.f6 Rows.ledgerLacksRow.domain false) (Rows.ledgerLacksSpec.post enc Try.prog Try.f6 false true false false) := by
  refine returnsInHanded_of_change_sized (C := Try.checked) ownL started (by kernel_rfl) Try.func6
    (ChangeSpec.witness6 (enc := enc) (C := Try.checked) false ⟨#[], #[.slice none 0 0, .int .u8 0, .int .u16 0, .int .u16 0], []⟩ 8 (by kernel_rfl) (by kernel_rfl) (by kernel_rfl) (by kernel_rfl)) ?_
  intro W base args ds gs before hval hW _ hsz0 _
  have hW' := hW
  obtain ⟨p, q, hA0, hV, rfl, hfz, hnd⟩ := hW
  have hA : DataW.TrodAll enc Try.prog W 0 (fun _ => true) true Try.f6.params.toList args.toList ds p := hA0
  rw [Try.params6] at hA hval
  obtain ⟨v0, vs0, d0, ds0, p0, q0, hargs, rfl, rfl, h0, r0⟩ := trodAll_cons hA
  obtain ⟨v1, vs1, d1, ds1, p1, q1, rfl, rfl, rfl, h1, r1⟩ := trodAll_cons r0
  obtain ⟨v2, vs2, d2, ds2, p2, q2, rfl, rfl, rfl, h2, r2⟩ := trodAll_cons r1
  obtain ⟨v3, vs3, d3, ds3, p3, q3, rfl, rfl, rfl, h3, r3⟩ := trodAll_cons r2
  obtain ⟨rfl, rfl, rfl⟩ := trodAll_nil r3
  obtain rfl : args = #[v0, v1, v2, v3] := by cases args; simp_all
  obtain ⟨rfl, rfl⟩ := trodVars_none hV
  obtain ⟨l0, hl0, hq0, hd0⟩ := open_deeds (hval 0 49 v0 rfl rfl) h0
  obtain ⟨a1, rfl, rfl, rfl, w1⟩ := open_int Try.underlying5 (hval 1 5 v1 rfl rfl) h1
  have hx1 : 0 ≤ a1 ∧ a1 ≤ 255 := by simpa [Lit.wf, IntKind.min, IntKind.max, IntKind.signed, IntKind.bits] using w1
  obtain ⟨a2, rfl, rfl, rfl, w2⟩ := open_int Try.underlying55 (hval 2 55 v2 rfl rfl) h2
  have hx2 : 0 ≤ a2 ∧ a2 ≤ 65535 := by simpa [Lit.wf, IntKind.min, IntKind.max, IntKind.signed, IntKind.bits] using w2
  obtain ⟨a3, rfl, rfl, rfl, w3⟩ := open_int Try.underlying55 (hval 3 55 v3 rfl rfl) h3
  have hx3 : 0 ≤ a3 ∧ a3 ≤ 65535 := by simpa [Lit.wf, IntKind.min, IntKind.max, IntKind.signed, IntKind.bits] using w3
  have hsz : (DataW.weightsEach Try.prog [49, 5, 55, 55] ([d0, .lit (.int .u8 a1), .lit (.int .u16 a2), .lit (.int .u16 a3)] : List (DataW H))).all (· ≤ reachBytes) = true := hsz0
  have e0 : l0.length * 4 ≤ 140737488351232 := slice_reach hsz 0 rfl rfl Try.underlying49 (by kernel_rfl) hd0
  refine (walk v0 l0 hq0 a1 a2 a3 hx1 hx2 hx3 W hl0).mono fun e W' ⟨he, hg⟩ => ?_
  subst he
  exact ⟨_, rfl, law_post laidOutL (by kernel_rfl) rfl Try.underlying4 rfl ⟨rfl, rfl, rfl⟩ hW' hg⟩

/-- THE STATEMENT -/
theorem proved : Rows.LedgerLacksSaid :=
  OpenClaim.holds_of_wide 6 Try.f6 rfl rfl rfl rfl rfl rfl rfl ⟨rfl, rfl, rfl, rfl, rfl⟩ rfl rfl rfl rfl rfl (by kernel_rfl) Try.func6 (by kernel_rfl)
    (of_decide_eq_true (by kernel_rfl)) (by unfold Func.isWrapper; first | (rw [if_pos (by decide +kernel)]; kernel_rfl) | (rw [if_neg (by decide +kernel)]; exact ⟨rfl, rfl⟩))
    (fun os started H enc _ => lifted os started H enc)
end Go.Proofs.Ytgbkphgclpgppaa.lawLedgerLacks
