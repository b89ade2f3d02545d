/- MemAdds: for any cells, a place, two numbers: what was added is taken back by what is below 0; sums go on, modulo 2^64. No condition. -/
import Derived.Test.YtncflfpmdcjmcaaMemUse2
namespace Go.Proofs.Ytncflfpmdcjmcaa.lawMemAdds
open Go.RowKit Go.WideShapes Go.ChangeShapes Go.ChangeAt Go.Proofs Go.Proofs.Ytncflfpmdcjmcaa

set_option maxRecDepth 100000 in
set_option maxHeartbeats 8000000 in
theorem walk_none (v : Value) (m : List Int) (at0 a b : Int) (w : World) (h : Cells w v m) (_hu : AllU m) (_hbig : m.length * 8 ≤ 140737488351232) (_h0 : 0 ≤ at0) (_h1 : at0 ≤ 255) (hm : m.length = 0) : Calls Try.prog 6 #[v, .int .u8 at0, .int .u64 a, .int .u64 b] w fun e w' => e = .returned (.bool true) ∧ Below w.heap.size w w' := by
  have GM := hide h
  have hB : Below w.heap.size w w := Below.refl _ _
  obtain ⟨A, c, rfl, hc1, hc2, -⟩ := h
  unfold maxLen at hc2
  rw [hm] at *
  clear hm
  go_enter Try.func6, Try.ntmps6
  go_wp2_with fail
  (with_reducible refine (examples_any _).mono ?_)
  rintro e w0_ ⟨rfl, hb0_⟩
  have GM := hide (GM.out.below hb0_)
  have hB := bcall hB hb0_
  go_wp2
  go_ret
  exact ⟨rfl, hB⟩
set_option maxRecDepth 100000 in
set_option maxHeartbeats 8000000 in
theorem walk_some (v : Value) (m : List Int) (at0 a b : Int) (w : World) (h : Cells w v m) (hu : AllU m) (hbig : m.length * 8 ≤ 140737488351232) (h0 : 0 ≤ at0) (h1 : at0 ≤ 255) (hm : m.length ≠ 0) : Calls Try.prog 6 #[v, .int .u8 at0, .int .u64 a, .int .u64 b] w fun e w' => e = .returned (.bool true) ∧ Below w.heap.size w w' := by
  have GM := hide h
  have hB : Below w.heap.size w w := Below.refl _ _
  obtain ⟨K, hK⟩ : ∃ K : Nat, at0 % (m.length : Int) = K := ⟨(at0 % (m.length : Int)).toNat, by have := Int.emod_nonneg at0 (b := (m.length : Int)) (by omega); omega⟩
  have hkm : K < m.length := by have := Int.emod_lt_of_pos at0 (b := (m.length : Int)) (by omega); omega
  obtain ⟨A, c, rfl, hc1, hc2, -⟩ := h
  unfold maxLen at hc2
  obtain ⟨r0, o0, rfl, -, y0⟩ := cells_at GM.out (k := K) hkm
  obtain ⟨y, hy⟩ : ∃ y, m[K] = y := ⟨_, rfl⟩
  rw [hy] at y0
  have hyu : U y := by rw [← hy]; exact hu _ (List.getElem_mem hkm)
  obtain ⟨s, hs⟩ : ∃ s, IntKind.u64.wrap (a + b) = s := ⟨_, rfl⟩
  obtain ⟨t, ht⟩ : ∃ t, IntKind.u64.wrap (-s) = t := ⟨_, rfl⟩
  have hfin : addU (addU (addU y a) b) t = y := by rw [← ht, ← hs, wrap_u, wrap_u]; exact taken_back hyu a b
  have HA := adds_all hkm hy a b t hfin
  obtain ⟨y1, hy1⟩ : ∃ x, addU y a = x := ⟨_, rfl⟩
  rw [hy1] at HA
  obtain ⟨y2, hy2⟩ : ∃ x, addU y1 b = x := ⟨_, rfl⟩
  rw [hy2] at HA
  have e1 : IntKind.u64.wrap (y + a) = y1 := by rw [wrap_u]; exact hy1
  have e2 : IntKind.u64.wrap (y1 + b) = y2 := by rw [wrap_u]; exact hy2
  have HA := hide HA
  clear hfin hy1 hy2 hyu hy hu
  go_enter Try.func6, Try.ntmps6
  go_wp2_with fail
  (with_reducible refine (examples_any _).mono ?_)
  rintro e w0_ ⟨rfl, hb0_⟩
  have y0 := keepc hb0_ y0
  have GM := hide (GM.out.below hb0_)
  have hB := bcall hB hb0_
  obtain ⟨w9, e9, hb9, D0⟩ := lit_deeds (w := w0_) [⟨4, K, a, 0⟩, ⟨4, K, b, 0⟩, ⟨1, K, 0, 0⟩, ⟨4, K, t, 0⟩] 4 rfl (by decide)
  have HE9 := hide (show w0_.alloc (.cells #[.int .i64 4, .int .i64 K, .int .u64 a, .int .u64 0, .int .i64 4, .int .i64 K, .int .u64 b, .int .u64 0, .int .i64 1, .int .i64 K, .int .u64 0, .int .u64 0, .int .i64 4, .int .i64 K, .int .u64 t, .int .u64 0] 26) = w9 from e9)
  have D0 := hide D0
  clear e9
  have y0 := keepc hb9 y0
  have GM := hide (GM.out.below hb9)
  have hB := bcall hB hb9
  go_wp2_with fail
  rw [HE9.out]
  (with_reducible refine (All_c _ _ m [⟨4, K, a, 0⟩, ⟨4, K, b, 0⟩, ⟨1, K, 0, 0⟩, ⟨4, K, t, 0⟩] _ GM.out D0.out hbig (by simp) m [y, y1, y2, y2] 4 (HA.out.1) (HA.out.2.1) (HA.out.2.2) m.length 4 (rfl) (rfl)).mono ?_)
  rintro e w1_ ⟨A1_, c1_, H1_, d1_, rfl, q1_, z1_, G1, G2, hb1_⟩
  have y0 := keepc hb1_ y0
  have GM := hide (GM.out.below hb1_)
  have hB := bcall hB hb1_
  have G1 := hide G1
  have G2 := hide G2
  obtain ⟨r2, o2, rfl, hz⟩ := cells_base G2.out (by simp)
  have z0 := hz 0 _ rfl
  have z1 := hz 1 _ rfl
  have z2 := hz 2 _ rfl
  have z3 := hz 3 _ rfl
  clear hz
  have q1 : (y == y) = true := by simp
  have q2 : (y1 == y1) = true := by simp
  have q3 : (y2 == y2) = true := by simp
  have y0q : ∀ p : BW w1_, p.w.cell? ⟨r0, o0 + K, none⟩ = some (.int .u64 y) := fun p => keepc p.b y0
  have z0q : ∀ p : BW w1_, p.w.cell? ⟨r2, o2, none⟩ = some (.int .u64 y) := fun p => keepc p.b z0
  have z1q : ∀ p : BW w1_, p.w.cell? ⟨r2, o2 + 1, none⟩ = some (.int .u64 y1) := fun p => keepc p.b z1
  have z2q : ∀ p : BW w1_, p.w.cell? ⟨r2, o2 + 2, none⟩ = some (.int .u64 y2) := fun p => keepc p.b z2
  have z3q : ∀ p : BW w1_, p.w.cell? ⟨r2, o2 + 3, none⟩ = some (.int .u64 y2) := fun p => keepc p.b z3
  have GMq := hide (fun p : BW w1_ => GM.out.below p.b)
  have G1q := hide (fun p : BW w1_ => G1.out.below p.b)
  have G2q := hide (fun p : BW w1_ => G2.out.below p.b)
  go_wp2
  refine wp_region_below (by kernel_rfl) (by kernel_rfl) ?_
  repeat (go_big_quiet_step (first | (with_reducible refine below_of (Same_true m _ (G1q.out _) (GMq.out _)))))
  refine wpQuiet_nil ?_
  intro _ hw'
  obtain ⟨⟨wq_, bq_⟩, hw''⟩ := hw'
  subst hw''
  clear y0q z0q z1q z2q z3q
  have hB := bcall hB bq_
  go_wp2
  go_ret
  exact ⟨rfl, hB⟩
theorem walk (v : Value) (m : List Int) (at0 a b : Int) (w : World) (h : Cells w v m) (hu : AllU m) (hbig : m.length * 8 ≤ 140737488351232) (h0 : 0 ≤ at0) (h1 : at0 ≤ 255) : Calls Try.prog 6 #[v, .int .u8 at0, .int .u64 a, .int .u64 b] w fun e w' => e = .returned (.bool true) ∧ Below w.heap.size w w' := by
  by_cases hm : m.length = 0
  · exact walk_none v m at0 a b w h hu hbig h0 h1 hm
  · exact walk_some v m at0 a b w h hu hbig h0 h1 hm

set_option maxRecDepth 100000 in
theorem lifted (os : Os) (started : os.Started) (H : Type) (enc : TypeId × Value → H) :
    ReturnsInHanded {} Try.checked os 6 .any (Rows.memAddsSpec.pre6 enc Try.prog Try.f6 Rows.memAddsRow.domain false) (Rows.memAddsSpec.post enc Try.prog Try.f6 false true false false) := by
  refine returnsInHanded_of_change_sized (C := Try.checked) ownL started (by kernel_rfl) Try.func6
    (ChangeSpec.witness6 (enc := enc) (C := Try.checked) false ⟨#[], #[.slice none 0 0, .int .u8 0, .int .u64 0, .int .u64 0], []⟩ 8 (by kernel_rfl) (by kernel_rfl) (by kernel_rfl) (by kernel_rfl)) ?_
  intro W base args ds gs before hval hW _ hsz0 _
  have hW' := hW
  obtain ⟨p, q, hA0, hV, rfl, hfz, hnd⟩ := hW
  have hA : DataW.TrodAll enc Try.prog W 0 (fun _ => true) true Try.f6.params.toList args.toList ds p := hA0
  rw [Try.params6] at hA hval
  obtain ⟨v0, vs0, d0, ds0, p0, q0, hargs, rfl, rfl, h0, r0⟩ := trodAll_cons hA
  obtain ⟨v1, vs1, d1, ds1, p1, q1, rfl, rfl, rfl, h1, r1⟩ := trodAll_cons r0
  obtain ⟨v2, vs2, d2, ds2, p2, q2, rfl, rfl, rfl, h2, r2⟩ := trodAll_cons r1
  obtain ⟨v3, vs3, d3, ds3, p3, q3, rfl, rfl, rfl, h3, r3⟩ := trodAll_cons r2
  obtain ⟨rfl, rfl, rfl⟩ := trodAll_nil r3
  obtain rfl : args = #[v0, v1, v2, v3] := by cases args; simp_all
  obtain ⟨rfl, rfl⟩ := trodVars_none hV
  obtain ⟨l0, hl0, hq0, hd0⟩ := open_cells (hval 0 23 v0 rfl rfl) h0
  obtain ⟨a1, rfl, rfl, rfl, w1⟩ := open_int Try.underlying5 (hval 1 5 v1 rfl rfl) h1
  have hx1 : 0 ≤ a1 ∧ a1 ≤ 255 := by simpa [Lit.wf, IntKind.min, IntKind.max, IntKind.signed, IntKind.bits] using w1
  obtain ⟨a2, rfl, rfl, rfl, w2⟩ := open_int Try.underlying24 (hval 2 24 v2 rfl rfl) h2
  have hx2 : 0 ≤ a2 ∧ a2 ≤ 18446744073709551615 := by simpa [Lit.wf, IntKind.min, IntKind.max, IntKind.signed, IntKind.bits] using w2
  obtain ⟨a3, rfl, rfl, rfl, w3⟩ := open_int Try.underlying24 (hval 3 24 v3 rfl rfl) h3
  have hx3 : 0 ≤ a3 ∧ a3 ≤ 18446744073709551615 := by simpa [Lit.wf, IntKind.min, IntKind.max, IntKind.signed, IntKind.bits] using w3
  have hsz : (DataW.weightsEach Try.prog [23, 5, 24, 24] ([d0, .lit (.int .u8 a1), .lit (.int .u64 a2), .lit (.int .u64 a3)] : List (DataW H))).all (· ≤ reachBytes) = true := hsz0
  have e0 : l0.length * 8 ≤ 140737488351232 := slice_reach hsz 0 rfl rfl Try.underlying23 (by kernel_rfl) hd0
  refine (walk v0 l0 a1 a2 a3 W hl0 hq0 (by omega) hx1.1 hx1.2).mono fun e W' ⟨he, hg⟩ => ?_
  subst he
  exact ⟨_, rfl, law_post laidOutL (by kernel_rfl) rfl Try.underlying4 rfl ⟨rfl, rfl, rfl⟩ hW' hg⟩

/-- THE STATEMENT -/
theorem proved : Rows.MemAddsSaid :=
  OpenClaim.holds_of_wide 6 Try.f6 rfl rfl rfl rfl rfl rfl rfl ⟨rfl, rfl, rfl, rfl, rfl⟩ rfl rfl rfl rfl rfl (by kernel_rfl) Try.func6 (by kernel_rfl)
    (of_decide_eq_true (by kernel_rfl)) (by unfold Func.isWrapper; first | (rw [if_pos (by decide +kernel)]; kernel_rfl) | (rw [if_neg (by decide +kernel)]; exact ⟨rfl, rfl⟩))
    (fun os started H enc _ => lifted os started H enc)
end Go.Proofs.Ytncflfpmdcjmcaa.lawMemAdds
