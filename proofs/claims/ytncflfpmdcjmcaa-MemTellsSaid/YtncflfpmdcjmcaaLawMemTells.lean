/- MemTells: for any cells, any deeds, all is told as the chapter says, which the document itself tells. No condition. -/
import Derived.Test.YtncflfpmdcjmcaaRefMem3
namespace Go.Proofs.Ytncflfpmdcjmcaa.lawMemTells
open Go.RowKit Go.WideShapes Go.ChangeShapes Go.ChangeAt Go.Proofs Go.Proofs.Ytncflfpmdcjmcaa

set_option maxRecDepth 100000 in
set_option maxHeartbeats 8000000 in
theorem walk (v lv nv : Value) (m n : List Int) (k t a b : Int) (l : List Dd) (w : World) (h : Cells w v m) (hl : Dds w lv l) (hn : Cells w nv n) (hbig : m.length * 8 ≤ 140737488351232) (hbl : l.length * 32 ≤ 140737488351232) : Calls Try.prog 3 #[v, ov k t a b, lv, nv] w fun e w' => e = .returned (.bool true) ∧ Below w.heap.size w w' := by
  have GM := hide h
  have hB : Below w.heap.size w w := Below.refl _ _
  have DL := hide hl
  have GN := hide hn
  obtain ⟨A, c, rfl, hc1, hc2, -⟩ := h
  obtain ⟨A1, c1, rfl, ha1, ha2, -⟩ := hl
  obtain ⟨A2, c2, rfl, hb1, hb2, -⟩ := hn
  unfold maxLen at hc2 ha2 hb2
  obtain ⟨i0, hi, hz0, hz1, hz2⟩ := info_parts infoROp
  obtain ⟨N, hN⟩ : ∃ x, mF m ⟨k, t, a, b⟩ = x := ⟨_, rfl⟩
  have HN := hide hN
  obtain ⟨V, hV⟩ : ∃ x, vF m ⟨k, t, a, b⟩ = x := ⟨_, rfl⟩
  have HV := hide hV
  obtain ⟨D, hD⟩ : ∃ x, okF m ⟨k, t, a, b⟩ = x := ⟨_, rfl⟩
  have HD := hide hD
  obtain ⟨X, hX⟩ : ∃ x, allM m l = x := ⟨_, rfl⟩
  have HX := hide hX
  obtain ⟨H, hH⟩ : ∃ x, allV m l = x := ⟨_, rfl⟩
  have HH := hide hH
  obtain ⟨E, hE⟩ : ∃ x, decide (m = n) = x := ⟨_, rfl⟩
  have HE := hide hE
  obtain ⟨I, hI⟩ : ∃ x : Int, ((allN m l : Nat) : Int) = x := ⟨_, rfl⟩
  have HI := hide hI
  have hlN := hide (show N.length = m.length by rw [← hN]; exact mF_len _ _)
  have hlX := hide (show X.length = m.length by rw [← hX]; exact allM_len _ _)
  have hlH := hide (show H.length = l.length by rw [← hH]; exact allV_len _ _)
  clear hN hV hD hX hH hE hI
  have q1 : (V == V) = true := by simp
  have q2 : (D == D) = true := by simp
  have q3 : (I == I) = true := by simp
  have q4 : (E == E) = true := by simp
  obtain ⟨wp0, ep0, hbp0, hsp0, u00, u01, u02, u03⟩ := box4 w (.int .i64 k) (.int .i64 t) (.int .u64 a) (.int .u64 b) 26
  have HEP0 := hide ep0
  clear ep0
  have GM := hide (GM.out.below hbp0)
  have DL := hide (DL.out.below hbp0)
  have GN := hide (GN.out.below hbp0)
  have hB := bcall hB hbp0
  go_enter Try.func3, Try.ntmps3
  go_wp2_with fail
  rw [HEP0.out]
  (with_reducible refine (examples_any _).mono ?_)
  rintro e w0_ ⟨rfl, hb0_⟩
  have u00 := keepc hb0_ u00
  have u01 := keepc hb0_ u01
  have u02 := keepc hb0_ u02
  have u03 := keepc hb0_ u03
  have GM := hide (GM.out.below hb0_)
  have DL := hide (DL.out.below hb0_)
  have GN := hide (GN.out.below hb0_)
  have hB := bcall hB hb0_
  go_wp2_with fail
  (with_reducible refine (Do_c _ m k t a b _ GM.out hbig N V D (HN.out) (HV.out) (HD.out) m.length (hlN.out)).mono ?_)
  rintro e w1_ ⟨A1_, c1_, rfl, q1_, G1, hb1_⟩
  have u00 := keepc hb1_ u00
  have u01 := keepc hb1_ u01
  have u02 := keepc hb1_ u02
  have u03 := keepc hb1_ u03
  have GM := hide (GM.out.below hb1_)
  have DL := hide (DL.out.below hb1_)
  have GN := hide (GN.out.below hb1_)
  have hB := bcall hB hb1_
  have G1 := hide G1
  go_wp2_with fail
  (with_reducible refine (refOp_any k t a b _).mono ?_)
  rintro e w2_ ⟨rfl, hb2_⟩
  have u00 := keepc hb2_ u00
  have u01 := keepc hb2_ u01
  have u02 := keepc hb2_ u02
  have u03 := keepc hb2_ u03
  have GM := hide (GM.out.below hb2_)
  have DL := hide (DL.out.below hb2_)
  have GN := hide (GN.out.below hb2_)
  have G1 := hide (G1.out.below hb2_)
  have hB := bcall hB hb2_
  go_wp2_with fail
  (with_reducible refine (rDo_c _ m k t a b _ GM.out hbig N V D HN.out HV.out HD.out m.length hlN.out).mono ?_)
  rintro e w3_ ⟨A3_, c3_, rfl, q3_, G2, hb3_⟩
  have u00 := keepc hb3_ u00
  have u01 := keepc hb3_ u01
  have u02 := keepc hb3_ u02
  have u03 := keepc hb3_ u03
  have GM := hide (GM.out.below hb3_)
  have DL := hide (DL.out.below hb3_)
  have GN := hide (GN.out.below hb3_)
  have G1 := hide (G1.out.below hb3_)
  have hB := bcall hB hb3_
  have G2 := hide G2
  go_wp2
  go_loopw [16, 17] (fun rv i wr => ∃ x : Nat, x ≤ l.length ∧ i = .int .i64 x ∧ Below w3_.heap.size w3_ wr ∧ Hid (wr.ownsRow w3_.heap.size 33 4 rv x ((l.take x).flatMap oc))) (fun _ i _ => l.length - (Go.RowKit.intOf i).toNat)
  case atStart => exact ⟨0, Nat.zero_le _, rfl, Below.refl _ _, hide (World.ownsRow_nil _ _ _ _)⟩
  case round =>
    obtain ⟨x, hx, rfl, hbw, HR⟩ := hrel
    have hbw0 := hbw
    have u00 := keepc hbw u00
    have u01 := keepc hbw u01
    have u02 := keepc hbw u02
    have u03 := keepc hbw u03
    have GM := hide (GM.out.below hbw)
    have DL := hide (DL.out.below hbw)
    have GN := hide (GN.out.below hbw)
    have G1 := hide (G1.out.below hbw)
    have G2 := hide (G2.out.below hbw)
    have hB := bcall hB hbw
    by_cases hlt : x < l.length
    · obtain ⟨kk, tt, aa, bb, ho⟩ : ∃ kk tt aa bb, l[x] = ⟨kk, tt, aa, bb⟩ := ⟨l[x].k, l[x].t, l[x].a, l[x].b, rfl⟩
      obtain ⟨gg, off, rfl, hgg, d0, d1, d2, d3⟩ := dd_at DL.out hlt ho
      have HT := hide (oc_take l x hlt kk tt aa bb ho)
      have hws := hbw0.size
      clear ho
      go_wp2_with fail
      (with_reducible refine (refOp_any kk tt aa bb _).mono ?_)
      rintro e w7 ⟨rfl, hb7⟩
      have hs7 := hb7.size
      have HR7 := hide (own_below HR.out hb7)
      go_wp2_with (at_builtin; refine wpList_append_own _ rfl _ _ 35 rfl w3_.heap.size 33 i0 (.agg #[.int .i64 0, .int .i64 0, .int .u64 0, .int .u64 0]) 4 32 Try.underlying35 hi hz0 hz1 hz2 rfl (by decide) _ _ _ rfl (HR7.out.alloc _) ⟨_, 0, none⟩ 1 1 [.int .i64 kk, .int .i64 tt, .int .u64 aa, .int .u64 bb] rfl rfl (row_at _ _ _ (by simp)) (by simp [Value.oneCell']) (by simp only [maxLen]; omega) (by omega) (by simp; omega) ?_; intro v8 w8 hown8 hgrow8 _)
      go_roundw
      case rel => exact ⟨x + 1, by omega, by go_num, ((hbw0.trans (hb7.mono hws)).alloc (by omega) _).grown hgrow8 (by simp; omega) (own_ge HR7.out), hide (by rw [HT.out]; exact hown8)⟩
      case measure => simp [Go.RowKit.intOf]; omega
    · have hxe : x = l.length := by omega
      have HR2 := HR.out
      rw [hxe, List.take_length] at HR2
      have DR := hide (show Dds wr _ l from Sl.of_own oc_len HR2)
      obtain ⟨A9, c9, rfl, hr1, hr2⟩ := own_form HR2
      unfold maxLen at hr2
      clear HR HR2 hlt
      go_wp2_with fail
      (with_reducible refine (All_c _ _ m l _ GM.out DL.out hbig (by omega) X H I (HX.out) (HH.out) (HI.out) m.length l.length (hlX.out) (hlH.out)).mono ?_)
      rintro e w4_ ⟨A4_, c4_, H4_, d4_, rfl, q4_, z4_, G3, G4, hb4_⟩
      have u00 := keepc hb4_ u00
      have u01 := keepc hb4_ u01
      have u02 := keepc hb4_ u02
      have u03 := keepc hb4_ u03
      have GM := hide (GM.out.below hb4_)
      have DL := hide (DL.out.below hb4_)
      have GN := hide (GN.out.below hb4_)
      have G1 := hide (G1.out.below hb4_)
      have G2 := hide (G2.out.below hb4_)
      have DR := hide (DR.out.below hb4_)
      have hB := bcall hB hb4_
      have G3 := hide G3
      have G4 := hide G4
      go_wp2_with fail
      (with_reducible refine (rAll_c _ _ m l _ GM.out DR.out hbig (by omega) X H I HX.out HH.out HI.out m.length l.length hlX.out hlH.out).mono ?_)
      rintro e w5_ ⟨A5_, c5_, H5_, d5_, rfl, q5_, z5_, G5, G6, hb5_⟩
      have u00 := keepc hb5_ u00
      have u01 := keepc hb5_ u01
      have u02 := keepc hb5_ u02
      have u03 := keepc hb5_ u03
      have GM := hide (GM.out.below hb5_)
      have DL := hide (DL.out.below hb5_)
      have GN := hide (GN.out.below hb5_)
      have G1 := hide (G1.out.below hb5_)
      have G2 := hide (G2.out.below hb5_)
      have DR := hide (DR.out.below hb5_)
      have G3 := hide (G3.out.below hb5_)
      have G4 := hide (G4.out.below hb5_)
      have hB := bcall hB hb5_
      have G5 := hide G5
      have G6 := hide G6
      go_wp2_with fail
      (with_reducible refine (same_true N _ G1.out G2.out).mono ?_)
      rintro e w6_ ⟨rfl, hb6_⟩
      have u00 := keepc hb6_ u00
      have u01 := keepc hb6_ u01
      have u02 := keepc hb6_ u02
      have u03 := keepc hb6_ u03
      have GM := hide (GM.out.below hb6_)
      have DL := hide (DL.out.below hb6_)
      have GN := hide (GN.out.below hb6_)
      have G1 := hide (G1.out.below hb6_)
      have G2 := hide (G2.out.below hb6_)
      have DR := hide (DR.out.below hb6_)
      have G3 := hide (G3.out.below hb6_)
      have G4 := hide (G4.out.below hb6_)
      have G5 := hide (G5.out.below hb6_)
      have G6 := hide (G6.out.below hb6_)
      have hB := bcall hB hb6_
      go_wp2_with fail
      (with_reducible refine (same_true X _ G3.out G5.out).mono ?_)
      rintro e w7_ ⟨rfl, hb7_⟩
      have u00 := keepc hb7_ u00
      have u01 := keepc hb7_ u01
      have u02 := keepc hb7_ u02
      have u03 := keepc hb7_ u03
      have GM := hide (GM.out.below hb7_)
      have DL := hide (DL.out.below hb7_)
      have GN := hide (GN.out.below hb7_)
      have G1 := hide (G1.out.below hb7_)
      have G2 := hide (G2.out.below hb7_)
      have DR := hide (DR.out.below hb7_)
      have G3 := hide (G3.out.below hb7_)
      have G4 := hide (G4.out.below hb7_)
      have G5 := hide (G5.out.below hb7_)
      have G6 := hide (G6.out.below hb7_)
      have hB := bcall hB hb7_
      go_wp2_with fail
      (with_reducible refine (rSame_e H H _ G4.out G6.out true (decide_eq_true rfl)).mono ?_)
      rintro e w8_ ⟨rfl, hb8_⟩
      have u00 := keepc hb8_ u00
      have u01 := keepc hb8_ u01
      have u02 := keepc hb8_ u02
      have u03 := keepc hb8_ u03
      have GM := hide (GM.out.below hb8_)
      have DL := hide (DL.out.below hb8_)
      have GN := hide (GN.out.below hb8_)
      have G1 := hide (G1.out.below hb8_)
      have G2 := hide (G2.out.below hb8_)
      have DR := hide (DR.out.below hb8_)
      have G3 := hide (G3.out.below hb8_)
      have G4 := hide (G4.out.below hb8_)
      have G5 := hide (G5.out.below hb8_)
      have G6 := hide (G6.out.below hb8_)
      have hB := bcall hB hb8_
      go_wp2_with fail
      (with_reducible refine (Same_e m n _ GM.out GN.out E HE.out).mono ?_)
      rintro e w9_ ⟨rfl, hb9_⟩
      have u00 := keepc hb9_ u00
      have u01 := keepc hb9_ u01
      have u02 := keepc hb9_ u02
      have u03 := keepc hb9_ u03
      have GM := hide (GM.out.below hb9_)
      have DL := hide (DL.out.below hb9_)
      have GN := hide (GN.out.below hb9_)
      have G1 := hide (G1.out.below hb9_)
      have G2 := hide (G2.out.below hb9_)
      have DR := hide (DR.out.below hb9_)
      have G3 := hide (G3.out.below hb9_)
      have G4 := hide (G4.out.below hb9_)
      have G5 := hide (G5.out.below hb9_)
      have G6 := hide (G6.out.below hb9_)
      have hB := bcall hB hb9_
      go_wp2_with fail
      (with_reducible refine (rSame_e m n _ GM.out GN.out E HE.out).mono ?_)
      rintro e w10_ ⟨rfl, hb10_⟩
      have u00 := keepc hb10_ u00
      have u01 := keepc hb10_ u01
      have u02 := keepc hb10_ u02
      have u03 := keepc hb10_ u03
      have GM := hide (GM.out.below hb10_)
      have DL := hide (DL.out.below hb10_)
      have GN := hide (GN.out.below hb10_)
      have G1 := hide (G1.out.below hb10_)
      have G2 := hide (G2.out.below hb10_)
      have DR := hide (DR.out.below hb10_)
      have G3 := hide (G3.out.below hb10_)
      have G4 := hide (G4.out.below hb10_)
      have G5 := hide (G5.out.below hb10_)
      have G6 := hide (G6.out.below hb10_)
      have hB := bcall hB hb10_
      go_wp2
      go_ret
      exact ⟨rfl, hB⟩

set_option maxRecDepth 100000 in
theorem lifted (os : Os) (started : os.Started) (H : Type) (enc : TypeId × Value → H) :
    ReturnsInHanded {} Try.checked os 3 .any (Rows.memTellsSpec.pre6 enc Try.prog Try.f3 Rows.memTellsRow.domain false) (Rows.memTellsSpec.post enc Try.prog Try.f3 false true false false) := by
  refine returnsInHanded_of_change_sized (C := Try.checked) ownL started (by kernel_rfl) Try.func3
    (ChangeSpec.witness6 (enc := enc) (C := Try.checked) false ⟨#[], #[.slice none 0 0, .agg #[.int .i64 0, .int .i64 0, .int .u64 0, .int .u64 0], .slice none 0 0, .slice none 0 0], []⟩ 8 (by kernel_rfl) (by kernel_rfl) (by kernel_rfl) (by kernel_rfl)) ?_
  intro W base args ds gs before hval hW _ hsz0 _
  have hW' := hW
  obtain ⟨p, q, hA0, hV, rfl, hfz, hnd⟩ := hW
  have hA : DataW.TrodAll enc Try.prog W 0 (fun _ => true) true Try.f3.params.toList args.toList ds p := hA0
  rw [Try.params3] at hA hval
  obtain ⟨v0, vs0, d0, ds0, p0, q0, hargs, rfl, rfl, h0, r0⟩ := trodAll_cons hA
  obtain ⟨v1, vs1, d1, ds1, p1, q1, rfl, rfl, rfl, h1, r1⟩ := trodAll_cons r0
  obtain ⟨v2, vs2, d2, ds2, p2, q2, rfl, rfl, rfl, h2, r2⟩ := trodAll_cons r1
  obtain ⟨v3, vs3, d3, ds3, p3, q3, rfl, rfl, rfl, h3, r3⟩ := trodAll_cons r2
  obtain ⟨rfl, rfl, rfl⟩ := trodAll_nil r3
  obtain rfl : args = #[v0, v1, v2, v3] := by cases args; simp_all
  obtain ⟨rfl, rfl⟩ := trodVars_none hV
  obtain ⟨l0, hl0, hq0, hd0⟩ := open_cells (hval 0 23 v0 rfl rfl) h0
  obtain ⟨k1, t1, a1, b1, rfl, hq1⟩ := open_op (hval 1 26 v1 rfl rfl) h1
  obtain ⟨l2, hl2, hq2, hd2⟩ := open_ops (hval 2 27 v2 rfl rfl) h2
  obtain ⟨l3, hl3, hq3, hd3⟩ := open_cells (hval 3 23 v3 rfl rfl) h3
  have hsz : (DataW.weightsEach Try.prog [23, 26, 27, 23] ([d0, d1, d2, d3] : List (DataW H))).all (· ≤ reachBytes) = true := hsz0
  have e0 : l0.length * 8 ≤ 140737488351232 := slice_reach hsz 0 rfl rfl Try.underlying23 (by kernel_rfl) hd0
  have e2 : l2.length * 32 ≤ 140737488351232 := slice_reach hsz 2 rfl rfl Try.underlying27 (by kernel_rfl) hd2
  have e3 : l3.length * 8 ≤ 140737488351232 := slice_reach hsz 3 rfl rfl Try.underlying23 (by kernel_rfl) hd3
  refine (walk v0 v2 v3 l0 l3 k1 t1 a1 b1 l2 W hl0 hl2 hl3 (by omega) (by omega)).mono fun e W' ⟨he, hg⟩ => ?_
  subst he
  exact ⟨_, rfl, law_post laidOutL (by kernel_rfl) rfl Try.underlying4 rfl ⟨rfl, rfl, rfl⟩ hW' hg⟩

/-- THE STATEMENT -/
theorem proved : Rows.MemTellsSaid :=
  OpenClaim.holds_of_wide 3 Try.f3 rfl rfl rfl rfl rfl rfl rfl ⟨rfl, rfl, rfl, rfl, rfl⟩ rfl rfl rfl rfl rfl (by kernel_rfl) Try.func3 (by kernel_rfl)
    (of_decide_eq_true (by kernel_rfl)) (by unfold Func.isWrapper; first | (rw [if_pos (by decide +kernel)]; kernel_rfl) | (rw [if_neg (by decide +kernel)]; exact ⟨rfl, rfl⟩))
    (fun os started H enc _ => lifted os started H enc)
end Go.Proofs.Ytncflfpmdcjmcaa.lawMemTells
