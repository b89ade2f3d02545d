/- MemApart: for any cells, two deeds: two deeds on unlike cells may change places. No condition. -/
import Derived.Test.YtncflfpmdcjmcaaMemUse2
namespace Go.Proofs.Ytncflfpmdcjmcaa.lawMemApart
open Go.RowKit Go.WideShapes Go.ChangeShapes Go.ChangeAt Go.Proofs Go.Proofs.Ytncflfpmdcjmcaa

set_option maxRecDepth 100000 in
set_option maxHeartbeats 8000000 in
theorem walk_same (v : Value) (m : List Int) (k t a b k' t' a' b' : Int) (w : World) (h : Cells w v m) (_hbig : m.length * 8 ≤ 140737488351232) (ht : t = t') : Calls Try.prog 8 #[v, ov k t a b, ov k' t' a' b'] w fun e w' => e = .returned (.bool true) ∧ Below w.heap.size w w' := by
  have GM := hide h
  have hB : Below w.heap.size w w := Below.refl _ _
  obtain ⟨A, c, rfl, hc1, hc2, -⟩ := h
  unfold maxLen at hc2
  have q : (t == t') = true := by simp [ht]
  clear ht
  obtain ⟨wp0, ep0, hbp0, hsp0, u00, u01, u02, u03⟩ := box4 w (.int .i64 k) (.int .i64 t) (.int .u64 a) (.int .u64 b) 26
  have HEP0 := hide ep0
  clear ep0
  have GM := hide (GM.out.below hbp0)
  have hB := bcall hB hbp0
  obtain ⟨wp1, ep1, hbp1, hsp1, u10, u11, u12, u13⟩ := box4 wp0 (.int .i64 k') (.int .i64 t') (.int .u64 a') (.int .u64 b') 26
  have HEP1 := hide ep1
  clear ep1
  rw [hsp0] at u10 u11 u12 u13
  have u00 := keepc hbp1 u00
  have u01 := keepc hbp1 u01
  have u02 := keepc hbp1 u02
  have u03 := keepc hbp1 u03
  have GM := hide (GM.out.below hbp1)
  have hB := bcall hB hbp1
  go_enter Try.func8, Try.ntmps8
  go_wp2_with fail
  rw [HEP0.out, HEP1.out]
  (with_reducible refine (examples_any _).mono ?_)
  rintro e w0_ ⟨rfl, hb0_⟩
  have u00 := keepc hb0_ u00
  have u01 := keepc hb0_ u01
  have u02 := keepc hb0_ u02
  have u03 := keepc hb0_ u03
  have u10 := keepc hb0_ u10
  have u11 := keepc hb0_ u11
  have u12 := keepc hb0_ u12
  have u13 := keepc hb0_ u13
  have GM := hide (GM.out.below hb0_)
  have hB := bcall hB hb0_
  go_wp2
  go_ret
  exact ⟨rfl, hB⟩
set_option maxRecDepth 100000 in
set_option maxHeartbeats 8000000 in
theorem walk_off (v : Value) (m : List Int) (k t a b k' t' a' b' : Int) (w : World) (h : Cells w v m) (hbig : m.length * 8 ≤ 140737488351232) (ht : t ≠ t') : Calls Try.prog 8 #[v, ov k t a b, ov k' t' a' b'] w fun e w' => e = .returned (.bool true) ∧ Below w.heap.size w w' := by
  have GM := hide h
  have hB : Below w.heap.size w w := Below.refl _ _
  obtain ⟨A, c, rfl, hc1, hc2, -⟩ := h
  unfold maxLen at hc2
  have q : (t == t') = false := by simp [ht]
  have HA := hide (apart_all m ⟨k, t, a, b⟩ ⟨k', t', a', b'⟩ ht)
  clear ht
  obtain ⟨wp0, ep0, hbp0, hsp0, u00, u01, u02, u03⟩ := box4 w (.int .i64 k) (.int .i64 t) (.int .u64 a) (.int .u64 b) 26
  have HEP0 := hide ep0
  clear ep0
  have GM := hide (GM.out.below hbp0)
  have hB := bcall hB hbp0
  obtain ⟨wp1, ep1, hbp1, hsp1, u10, u11, u12, u13⟩ := box4 wp0 (.int .i64 k') (.int .i64 t') (.int .u64 a') (.int .u64 b') 26
  have HEP1 := hide ep1
  clear ep1
  rw [hsp0] at u10 u11 u12 u13
  have u00 := keepc hbp1 u00
  have u01 := keepc hbp1 u01
  have u02 := keepc hbp1 u02
  have u03 := keepc hbp1 u03
  have GM := hide (GM.out.below hbp1)
  have hB := bcall hB hbp1
  obtain ⟨X, hX⟩ : ∃ X, allM m [⟨k', t', a', b'⟩, ⟨k, t, a, b⟩] = X := ⟨_, rfl⟩
  obtain ⟨N, hN⟩ : ∃ N : Int, ((allN m [⟨k', t', a', b'⟩, ⟨k, t, a, b⟩] : Nat) : Int) = N := ⟨_, rfl⟩
  obtain ⟨p0, h0⟩ : ∃ x, vF m ⟨k, t, a, b⟩ = x := ⟨_, rfl⟩
  obtain ⟨p1, h1⟩ : ∃ x, vF m ⟨k', t', a', b'⟩ = x := ⟨_, rfl⟩
  rw [h0, h1] at HA
  have HX := hide hX
  have HN := hide hN
  have hlX := hide (show X.length = m.length by rw [← hX]; exact allM_len _ _)
  clear hX hN h0 h1
  go_enter Try.func8, Try.ntmps8
  go_wp2_with fail
  rw [HEP0.out, HEP1.out]
  (with_reducible refine (examples_any _).mono ?_)
  rintro e w0_ ⟨rfl, hb0_⟩
  have u00 := keepc hb0_ u00
  have u01 := keepc hb0_ u01
  have u02 := keepc hb0_ u02
  have u03 := keepc hb0_ u03
  have u10 := keepc hb0_ u10
  have u11 := keepc hb0_ u11
  have u12 := keepc hb0_ u12
  have u13 := keepc hb0_ u13
  have GM := hide (GM.out.below hb0_)
  have hB := bcall hB hb0_
  obtain ⟨wl0, el0, hbl0, D0⟩ := lit_deeds (w := w0_) [⟨k, t, a, b⟩, ⟨k', t', a', b'⟩] 2 rfl (by decide)
  have HEL0 := hide (show w0_.alloc (.cells #[.int .i64 k, .int .i64 t, .int .u64 a, .int .u64 b, .int .i64 k', .int .i64 t', .int .u64 a', .int .u64 b'] 26) = wl0 from el0)
  have D0 := hide D0
  clear el0
  have u00 := keepc hbl0 u00
  have u01 := keepc hbl0 u01
  have u02 := keepc hbl0 u02
  have u03 := keepc hbl0 u03
  have u10 := keepc hbl0 u10
  have u11 := keepc hbl0 u11
  have u12 := keepc hbl0 u12
  have u13 := keepc hbl0 u13
  have GM := hide (GM.out.below hbl0)
  have hB := bcall hB hbl0
  go_wp2_with fail
  rw [HEL0.out]
  (with_reducible refine (All_c _ _ m [⟨k, t, a, b⟩, ⟨k', t', a', b'⟩] _ GM.out D0.out hbig (by simp) X [p0, p1] N (HA.out.1.trans HX.out) (HA.out.2.2.1) ((congrArg Int.ofNat HA.out.2.2.2).trans HN.out) m.length 2 (hlX.out) (rfl)).mono ?_)
  rintro e w1_ ⟨A1_, c1_, H1_, d1_, rfl, q1_, z1_, G1, G2, hb1_⟩
  have u00 := keepc hb1_ u00
  have u01 := keepc hb1_ u01
  have u02 := keepc hb1_ u02
  have u03 := keepc hb1_ u03
  have u10 := keepc hb1_ u10
  have u11 := keepc hb1_ u11
  have u12 := keepc hb1_ u12
  have u13 := keepc hb1_ u13
  have GM := hide (GM.out.below hb1_)
  have hB := bcall hB hb1_
  have G1 := hide G1
  have G2 := hide G2
  obtain ⟨wl1, el1, hbl1, D1⟩ := lit_deeds (w := w1_) [⟨k', t', a', b'⟩, ⟨k, t, a, b⟩] 2 rfl (by decide)
  have HEL1 := hide (show w1_.alloc (.cells #[.int .i64 k', .int .i64 t', .int .u64 a', .int .u64 b', .int .i64 k, .int .i64 t, .int .u64 a, .int .u64 b] 26) = wl1 from el1)
  have D1 := hide D1
  clear el1
  have u00 := keepc hbl1 u00
  have u01 := keepc hbl1 u01
  have u02 := keepc hbl1 u02
  have u03 := keepc hbl1 u03
  have u10 := keepc hbl1 u10
  have u11 := keepc hbl1 u11
  have u12 := keepc hbl1 u12
  have u13 := keepc hbl1 u13
  have GM := hide (GM.out.below hbl1)
  have G1 := hide (G1.out.below hbl1)
  have G2 := hide (G2.out.below hbl1)
  have hB := bcall hB hbl1
  go_wp2_with fail
  rw [HEL1.out]
  (with_reducible refine (All_c _ _ m [⟨k', t', a', b'⟩, ⟨k, t, a, b⟩] _ GM.out D1.out hbig (by simp) X [p1, p0] N (HX.out) (HA.out.2.1) (HN.out) m.length 2 (hlX.out) (rfl)).mono ?_)
  rintro e w2_ ⟨A2_, c2_, H2_, d2_, rfl, q2_, z2_, G3, G4, hb2_⟩
  have u00 := keepc hb2_ u00
  have u01 := keepc hb2_ u01
  have u02 := keepc hb2_ u02
  have u03 := keepc hb2_ u03
  have u10 := keepc hb2_ u10
  have u11 := keepc hb2_ u11
  have u12 := keepc hb2_ u12
  have u13 := keepc hb2_ u13
  have GM := hide (GM.out.below hb2_)
  have G1 := hide (G1.out.below hb2_)
  have G2 := hide (G2.out.below hb2_)
  have hB := bcall hB hb2_
  have G3 := hide G3
  have G4 := hide G4
  obtain ⟨r2, o2, rfl, hz⟩ := cells_base G2.out (by simp)
  have z0 := hz 0 _ rfl
  have z1 := hz 1 _ rfl
  clear hz
  obtain ⟨r4, o4, rfl, hz⟩ := cells_base G4.out (by simp)
  have y0 := hz 0 _ rfl
  have y1 := hz 1 _ rfl
  clear hz
  have q1 : (p0 == p0) = true := by simp
  have q2 : (p1 == p1) = true := by simp
  have q3 : (N == N) = true := by simp
  have u00q : ∀ p : BW w2_, p.w.cell? ⟨w.heap.size, 0, none⟩ = some (.int .i64 k) := fun p => keepc p.b u00
  have u01q : ∀ p : BW w2_, p.w.cell? ⟨w.heap.size, 1, none⟩ = some (.int .i64 t) := fun p => keepc p.b u01
  have u02q : ∀ p : BW w2_, p.w.cell? ⟨w.heap.size, 2, none⟩ = some (.int .u64 a) := fun p => keepc p.b u02
  have u03q : ∀ p : BW w2_, p.w.cell? ⟨w.heap.size, 3, none⟩ = some (.int .u64 b) := fun p => keepc p.b u03
  have u10q : ∀ p : BW w2_, p.w.cell? ⟨w.heap.size + 1, 0, none⟩ = some (.int .i64 k') := fun p => keepc p.b u10
  have u11q : ∀ p : BW w2_, p.w.cell? ⟨w.heap.size + 1, 1, none⟩ = some (.int .i64 t') := fun p => keepc p.b u11
  have u12q : ∀ p : BW w2_, p.w.cell? ⟨w.heap.size + 1, 2, none⟩ = some (.int .u64 a') := fun p => keepc p.b u12
  have u13q : ∀ p : BW w2_, p.w.cell? ⟨w.heap.size + 1, 3, none⟩ = some (.int .u64 b') := fun p => keepc p.b u13
  have z0q : ∀ p : BW w2_, p.w.cell? ⟨r2, o2, none⟩ = some (.int .u64 p0) := fun p => keepc p.b z0
  have z1q : ∀ p : BW w2_, p.w.cell? ⟨r2, o2 + 1, none⟩ = some (.int .u64 p1) := fun p => keepc p.b z1
  have y0q : ∀ p : BW w2_, p.w.cell? ⟨r4, o4, none⟩ = some (.int .u64 p1) := fun p => keepc p.b y0
  have y1q : ∀ p : BW w2_, p.w.cell? ⟨r4, o4 + 1, none⟩ = some (.int .u64 p0) := fun p => keepc p.b y1
  have GMq := hide (fun p : BW w2_ => GM.out.below p.b)
  have G1q := hide (fun p : BW w2_ => G1.out.below p.b)
  have G2q := hide (fun p : BW w2_ => G2.out.below p.b)
  have G3q := hide (fun p : BW w2_ => G3.out.below p.b)
  have G4q := hide (fun p : BW w2_ => G4.out.below p.b)
  go_wp2
  refine wp_region_below (by kernel_rfl) (by kernel_rfl) ?_
  repeat (go_big_quiet_step (first | (with_reducible refine below_of (Same_true X _ (G1q.out _) (G3q.out _)))))
  refine wpQuiet_nil ?_
  intro _ hw'
  obtain ⟨⟨wq_, bq_⟩, hw''⟩ := hw'
  subst hw''
  clear u00q u01q u02q u03q u10q u11q u12q u13q z0q z1q y0q y1q
  have hB := bcall hB bq_
  go_wp2
  go_ret
  exact ⟨rfl, hB⟩
theorem walk (v : Value) (m : List Int) (k t a b k' t' a' b' : Int) (w : World) (h : Cells w v m) (hbig : m.length * 8 ≤ 140737488351232) : Calls Try.prog 8 #[v, ov k t a b, ov k' t' a' b'] w fun e w' => e = .returned (.bool true) ∧ Below w.heap.size w w' := by
  by_cases ht : t = t'
  · exact walk_same v m k t a b k' t' a' b' w h hbig ht
  · exact walk_off v m k t a b k' t' a' b' w h hbig ht

set_option maxRecDepth 100000 in
theorem lifted (os : Os) (started : os.Started) (H : Type) (enc : TypeId × Value → H) :
    ReturnsInHanded {} Try.checked os 8 .any (Rows.memApartSpec.pre6 enc Try.prog Try.f8 Rows.memApartRow.domain false) (Rows.memApartSpec.post enc Try.prog Try.f8 false true false false) := by
  refine returnsInHanded_of_change_sized (C := Try.checked) ownL started (by kernel_rfl) Try.func8
    (ChangeSpec.witness6 (enc := enc) (C := Try.checked) false ⟨#[], #[.slice none 0 0, .agg #[.int .i64 0, .int .i64 0, .int .u64 0, .int .u64 0], .agg #[.int .i64 0, .int .i64 0, .int .u64 0, .int .u64 0]], []⟩ 8 (by kernel_rfl) (by kernel_rfl) (by kernel_rfl) (by kernel_rfl)) ?_
  intro W base args ds gs before hval hW _ hsz0 _
  have hW' := hW
  obtain ⟨p, q, hA0, hV, rfl, hfz, hnd⟩ := hW
  have hA : DataW.TrodAll enc Try.prog W 0 (fun _ => true) true Try.f8.params.toList args.toList ds p := hA0
  rw [Try.params8] at hA hval
  obtain ⟨v0, vs0, d0, ds0, p0, q0, hargs, rfl, rfl, h0, r0⟩ := trodAll_cons hA
  obtain ⟨v1, vs1, d1, ds1, p1, q1, rfl, rfl, rfl, h1, r1⟩ := trodAll_cons r0
  obtain ⟨v2, vs2, d2, ds2, p2, q2, rfl, rfl, rfl, h2, r2⟩ := trodAll_cons r1
  obtain ⟨rfl, rfl, rfl⟩ := trodAll_nil r2
  obtain rfl : args = #[v0, v1, v2] := by cases args; simp_all
  obtain ⟨rfl, rfl⟩ := trodVars_none hV
  obtain ⟨l0, hl0, hq0, hd0⟩ := open_cells (hval 0 23 v0 rfl rfl) h0
  obtain ⟨k1, t1, a1, b1, rfl, hq1⟩ := open_op (hval 1 26 v1 rfl rfl) h1
  obtain ⟨k2, t2, a2, b2, rfl, hq2⟩ := open_op (hval 2 26 v2 rfl rfl) h2
  have hsz : (DataW.weightsEach Try.prog [23, 26, 26] ([d0, d1, d2] : List (DataW H))).all (· ≤ reachBytes) = true := hsz0
  have e0 : l0.length * 8 ≤ 140737488351232 := slice_reach hsz 0 rfl rfl Try.underlying23 (by kernel_rfl) hd0
  refine (walk v0 l0 k1 t1 a1 b1 k2 t2 a2 b2 W hl0 (by omega)).mono fun e W' ⟨he, hg⟩ => ?_
  subst he
  exact ⟨_, rfl, law_post laidOutL (by kernel_rfl) rfl Try.underlying4 rfl ⟨rfl, rfl, rfl⟩ hW' hg⟩

/-- THE STATEMENT -/
theorem proved : Rows.MemApartSaid :=
  OpenClaim.holds_of_wide 8 Try.f8 rfl rfl rfl rfl rfl rfl rfl ⟨rfl, rfl, rfl, rfl, rfl⟩ rfl rfl rfl rfl rfl (by kernel_rfl) Try.func8 (by kernel_rfl)
    (of_decide_eq_true (by kernel_rfl)) (by unfold Func.isWrapper; first | (rw [if_pos (by decide +kernel)]; kernel_rfl) | (rw [if_neg (by decide +kernel)]; exact ⟨rfl, rfl⟩))
    (fun os started H enc _ => lifted os started H enc)
end Go.Proofs.Ytncflfpmdcjmcaa.lawMemApart
