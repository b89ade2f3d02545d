/- MemSwaps: for any cells, a place, three numbers: a swap is done just if the cell has what is asked for; done twice with other numbers than it has, it is not. No condition. -/
import Derived.Test.YtncflfpmdcjmcaaMemUse2
namespace Go.Proofs.Ytncflfpmdcjmcaa.lawMemSwaps
open Go.RowKit Go.WideShapes Go.ChangeShapes Go.ChangeAt Go.Proofs Go.Proofs.Ytncflfpmdcjmcaa

set_option maxRecDepth 100000 in
set_option maxHeartbeats 8000000 in
theorem walk_none (v : Value) (m : List Int) (at0 a b : Int) (w : World) (h : Cells w v m) (_hbig : m.length * 8 ≤ 140737488351232) (_h0 : 0 ≤ at0) (_h1 : at0 ≤ 255) (hm : m.length = 0) : Calls Try.prog 5 #[v, .int .u8 at0, .int .u64 a, .int .u64 b] w fun e w' => e = .returned (.bool true) ∧ Below w.heap.size w w' := by
  have GM := hide h
  have hB : Below w.heap.size w w := Below.refl _ _
  obtain ⟨A, c, rfl, hc1, hc2, -⟩ := h
  unfold maxLen at hc2
  rw [hm] at *
  clear hm
  go_enter Try.func5, Try.ntmps5
  go_wp2_with fail
  (with_reducible refine (examples_any _).mono ?_)
  rintro e w0_ ⟨rfl, hb0_⟩
  have GM := hide (GM.out.below hb0_)
  have hB := bcall hB hb0_
  go_wp2
  go_ret
  exact ⟨rfl, hB⟩
set_option maxRecDepth 100000 in
set_option maxHeartbeats 8000000 in
theorem walk_no (v : Value) (m : List Int) (at0 a b : Int) (w : World) (h : Cells w v m) (hbig : m.length * 8 ≤ 140737488351232) (h0 : 0 ≤ at0) (h1 : at0 ≤ 255) (hm : m.length ≠ 0) (hne : ∀ y, m[(at0 % (m.length : Int)).toNat]? = some y → y ≠ a) : Calls Try.prog 5 #[v, .int .u8 at0, .int .u64 a, .int .u64 b] w fun e w' => e = .returned (.bool true) ∧ Below w.heap.size w w' := by
  have GM := hide h
  have hB : Below w.heap.size w w := Below.refl _ _
  obtain ⟨K, hK⟩ : ∃ K : Nat, at0 % (m.length : Int) = K := ⟨(at0 % (m.length : Int)).toNat, by have := Int.emod_nonneg at0 (b := (m.length : Int)) (by omega); omega⟩
  have hkm : K < m.length := by have := Int.emod_lt_of_pos at0 (b := (m.length : Int)) (by omega); omega
  obtain ⟨A, c, rfl, hc1, hc2, -⟩ := h
  unfold maxLen at hc2
  obtain ⟨r0, o0, rfl, -, y0⟩ := cells_at GM.out (k := K) hkm
  obtain ⟨y, hy⟩ : ∃ y, m[K] = y := ⟨_, rfl⟩
  rw [hy] at y0
  have hya : y ≠ a := hne y (by rw [hK]; simp [hkm, hy])
  clear hne
  have HS1 := hide (swap_no (a := a) (b := b) hkm hy hya)
  have HS2 := hide (swap_yes (b := y) hkm hy)
  have hmm : Hid (m.set K y = m) := hide (set_same hkm hy)
  have q0 : (y == a) = false := by simp [hya]
  have q1 : (y != y) = false := by simp
  obtain ⟨N3, hN3⟩ : ∃ N, mF m ⟨3, K, b, a⟩ = N := ⟨_, rfl⟩
  obtain ⟨V3, hV3⟩ : ∃ N, vF m ⟨3, K, b, a⟩ = N := ⟨_, rfl⟩
  obtain ⟨D3, hD3⟩ : ∃ N, okF m ⟨3, K, b, a⟩ = N := ⟨_, rfl⟩
  have HN3 := hide hN3
  have HV3 := hide hV3
  have HD3 := hide hD3
  have HY := hide hy
  have hl3 := hide (show N3.length = m.length by rw [← hN3]; exact mF_len _ _)
  clear hN3 hV3 hD3 hy hya
  go_enter Try.func5, Try.ntmps5
  go_wp2_with fail
  (with_reducible refine (examples_any _).mono ?_)
  rintro e w0_ ⟨rfl, hb0_⟩
  have y0 := keepc hb0_ y0
  have GM := hide (GM.out.below hb0_)
  have hB := bcall hB hb0_
  go_wp2_with fail
  (with_reducible refine (Do_c _ m 3 K a b _ GM.out hbig m y false (HS1.out.1) (HS1.out.2.1) (HS1.out.2.2) _ (rfl)).mono ?_)
  rintro e w1_ ⟨A1_, c1_, rfl, q1_, G1, hb1_⟩
  have y0 := keepc hb1_ y0
  have GM := hide (GM.out.below hb1_)
  have hB := bcall hB hb1_
  have G1 := hide G1
  have GD1 := hide (cells_drew G1.out)
  go_wp2
  go_region_with (go_at_call 10; (with_reducible refine (Do_c _ m 3 K y y _ GD1.out (by rw [show m.length = m.length from rfl]; exact hbig) m y true ((HS2.out.1.trans hmm.out)) (HS2.out.2.1) (HS2.out.2.2) _ (rfl)).mono ?_); rintro e w2_ ⟨A2_, c2_, rfl, q2_, G2, hb2_⟩)
  all_goals
    have G2 := hide G2
    have hb2_ := undrew hb2_
    have y0 := keepc hb2_ y0
    have GM := hide (GM.out.below hb2_)
    have G1 := hide (G1.out.below hb2_)
    have hB := bcall hB hb2_
    go_wp2_with fail
    (with_reducible refine (Do_c _ m 3 K b a _ G1.out (by rw [show m.length = m.length from rfl]; exact hbig) N3 V3 D3 (HN3.out) (HV3.out) (HD3.out) _ (hl3.out)).mono ?_)
    rintro e w3_ ⟨A3_, c3_, rfl, q3_, G3, hb3_⟩
    have y0 := keepc hb3_ y0
    have GM := hide (GM.out.below hb3_)
    have G1 := hide (G1.out.below hb3_)
    have G2 := hide (G2.out.below hb3_)
    have hB := bcall hB hb3_
    have G3 := hide G3
    go_wp2_with fail
    (with_reducible refine (Same_any _ _ m m _ G1.out GM.out).mono ?_)
    rintro e w4_ ⟨rfl, hb4_⟩
    have y0 := keepc hb4_ y0
    have GM := hide (GM.out.below hb4_)
    have G1 := hide (G1.out.below hb4_)
    have G2 := hide (G2.out.below hb4_)
    have G3 := hide (G3.out.below hb4_)
    have hB := bcall hB hb4_
    rw [decide_eq_true rfl]
    go_wp2
    go_ret
    exact ⟨rfl, hB⟩
set_option maxRecDepth 100000 in
set_option maxHeartbeats 8000000 in
theorem walk_yes (v : Value) (m : List Int) (at0 y b : Int) (w : World) (h : Cells w v m) (hbig : m.length * 8 ≤ 140737488351232) (h0 : 0 ≤ at0) (h1 : at0 ≤ 255) (hm : m.length ≠ 0) (hyy : m[(at0 % (m.length : Int)).toNat]? = some y) (hby : b ≠ y) : Calls Try.prog 5 #[v, .int .u8 at0, .int .u64 y, .int .u64 b] w fun e w' => e = .returned (.bool true) ∧ Below w.heap.size w w' := by
  have GM := hide h
  have hB : Below w.heap.size w w := Below.refl _ _
  obtain ⟨K, hK⟩ : ∃ K : Nat, at0 % (m.length : Int) = K := ⟨(at0 % (m.length : Int)).toNat, by have := Int.emod_nonneg at0 (b := (m.length : Int)) (by omega); omega⟩
  have hkm : K < m.length := by have := Int.emod_lt_of_pos at0 (b := (m.length : Int)) (by omega); omega
  have hy : m[K] = y := by rw [hK] at hyy; simpa [List.getElem?_eq_getElem hkm] using hyy
  clear hyy
  obtain ⟨A, c, rfl, hc1, hc2, -⟩ := h
  unfold maxLen at hc2
  obtain ⟨r0, o0, rfl, -, y0⟩ := cells_at GM.out (k := K) hkm
  rw [hy] at y0
  have HS1 := hide (swap_yes (b := b) hkm hy)
  have hsm := set_same hkm hy
  obtain ⟨N, hN⟩ : ∃ N, m.set K b = N := ⟨_, rfl⟩
  have hlN : N.length = m.length := by rw [← hN]; simp
  have hkN : K < N.length := by omega
  have hNK : N[K] = b := by subst hN; simp
  have hback : N.set K y = m := by rw [← hN, List.set_set]; exact hsm
  rw [hN] at HS1
  have HS2 := hide (swap_no (a := y) (b := y) hkN hNK hby)
  have HS3 := hide (swap_yes (b := y) hkN hNK)
  have q0 : (y == y) = true := by simp
  have q1 : (y != y) = false := by simp
  have q2 : (y == b) = false := by simp; exact fun h => hby h.symm
  have q3 : (b == b) = true := by simp
  have hl1 := hide hlN
  have HB := hide hback
  have HNK := hide hNK
  have HKN := hide hkN
  clear hN hlN hNK hback hy hsm hby
  go_enter Try.func5, Try.ntmps5
  go_wp2_with fail
  (with_reducible refine (examples_any _).mono ?_)
  rintro e w0_ ⟨rfl, hb0_⟩
  have y0 := keepc hb0_ y0
  have GM := hide (GM.out.below hb0_)
  have hB := bcall hB hb0_
  go_wp2_with fail
  (with_reducible refine (Do_c _ m 3 K y b _ GM.out hbig N y true (HS1.out.1) (HS1.out.2.1) (HS1.out.2.2) _ (hl1.out)).mono ?_)
  rintro e w1_ ⟨A1_, c1_, rfl, q1_, G1, hb1_⟩
  have y0 := keepc hb1_ y0
  have GM := hide (GM.out.below hb1_)
  have hB := bcall hB hb1_
  have G1 := hide G1
  have GD1 := hide (cells_drew G1.out)
  go_wp2
  go_region_with (go_at_call 10; (with_reducible refine (Do_c _ N 3 K y y _ GD1.out (by rw [hl1.out]; exact hbig) N b false (HS2.out.1) (HS2.out.2.1) (HS2.out.2.2) _ (hl1.out)).mono ?_); rintro e w2_ ⟨A2_, c2_, rfl, q2_, G2, hb2_⟩)
  all_goals
    have G2 := hide G2
    have hb2_ := undrew hb2_
    have y0 := keepc hb2_ y0
    have GM := hide (GM.out.below hb2_)
    have G1 := hide (G1.out.below hb2_)
    have hB := bcall hB hb2_
    go_wp2_with fail
    (with_reducible refine (Do_c _ N 3 K b y _ G1.out (by rw [hl1.out]; exact hbig) m b true (HS3.out.1.trans HB.out) (HS3.out.2.1) (HS3.out.2.2) _ (rfl)).mono ?_)
    rintro e w3_ ⟨A3_, c3_, rfl, q3_, G3, hb3_⟩
    have y0 := keepc hb3_ y0
    have GM := hide (GM.out.below hb3_)
    have G1 := hide (G1.out.below hb3_)
    have G2 := hide (G2.out.below hb3_)
    have hB := bcall hB hb3_
    have G3 := hide G3
    obtain ⟨r1, o1, rfl, -, z0⟩ := cells_at G1.out (k := K) HKN.out
    rw [HNK.out] at z0
    go_wp2_with fail
    (with_reducible refine (Same_any _ _ m m _ G3.out GM.out).mono ?_)
    rintro e w4_ ⟨rfl, hb4_⟩
    have y0 := keepc hb4_ y0
    have z0 := keepc hb4_ z0
    have GM := hide (GM.out.below hb4_)
    have G1 := hide (G1.out.below hb4_)
    have G2 := hide (G2.out.below hb4_)
    have G3 := hide (G3.out.below hb4_)
    have hB := bcall hB hb4_
    rw [decide_eq_true rfl]
    go_wp2
    go_ret
    exact ⟨rfl, hB⟩
set_option maxRecDepth 100000 in
set_option maxHeartbeats 8000000 in
theorem walk_same (v : Value) (m : List Int) (at0 y : Int) (w : World) (h : Cells w v m) (hbig : m.length * 8 ≤ 140737488351232) (h0 : 0 ≤ at0) (h1 : at0 ≤ 255) (hm : m.length ≠ 0) (hyy : m[(at0 % (m.length : Int)).toNat]? = some y)  : Calls Try.prog 5 #[v, .int .u8 at0, .int .u64 y, .int .u64 y] w fun e w' => e = .returned (.bool true) ∧ Below w.heap.size w w' := by
  have GM := hide h
  have hB : Below w.heap.size w w := Below.refl _ _
  obtain ⟨K, hK⟩ : ∃ K : Nat, at0 % (m.length : Int) = K := ⟨(at0 % (m.length : Int)).toNat, by have := Int.emod_nonneg at0 (b := (m.length : Int)) (by omega); omega⟩
  have hkm : K < m.length := by have := Int.emod_lt_of_pos at0 (b := (m.length : Int)) (by omega); omega
  have hy : m[K] = y := by rw [hK] at hyy; simpa [List.getElem?_eq_getElem hkm] using hyy
  clear hyy
  obtain ⟨A, c, rfl, hc1, hc2, -⟩ := h
  unfold maxLen at hc2
  obtain ⟨r0, o0, rfl, -, y0⟩ := cells_at GM.out (k := K) hkm
  rw [hy] at y0
  have HS1 := hide (swap_yes (b := y) hkm hy)
  have hsm := set_same hkm hy
  obtain ⟨N, hN⟩ : ∃ N, m.set K y = N := ⟨_, rfl⟩
  have hlN : N.length = m.length := by rw [← hN]; simp
  have hkN : K < N.length := by omega
  have hNK : N[K] = y := by subst hN; simp
  have hback : N.set K y = m := by rw [← hN, List.set_set]; exact hsm
  rw [hN] at HS1
  have HS2 := hide (swap_yes (b := y) hkN hNK)
  have hNN := hide (set_same hkN hNK)
  have HS3 := hide (swap_yes (b := y) hkN hNK)
  have q0 : (y == y) = true := by simp
  have q1 : (y != y) = false := by simp
  have hl1 := hide hlN
  have HB := hide hback
  have HNK := hide hNK
  have HKN := hide hkN
  clear hN hlN hNK hback hy hsm
  go_enter Try.func5, Try.ntmps5
  go_wp2_with fail
  (with_reducible refine (examples_any _).mono ?_)
  rintro e w0_ ⟨rfl, hb0_⟩
  have y0 := keepc hb0_ y0
  have GM := hide (GM.out.below hb0_)
  have hB := bcall hB hb0_
  go_wp2_with fail
  (with_reducible refine (Do_c _ m 3 K y y _ GM.out hbig N y true (HS1.out.1) (HS1.out.2.1) (HS1.out.2.2) _ (hl1.out)).mono ?_)
  rintro e w1_ ⟨A1_, c1_, rfl, q1_, G1, hb1_⟩
  have y0 := keepc hb1_ y0
  have GM := hide (GM.out.below hb1_)
  have hB := bcall hB hb1_
  have G1 := hide G1
  have GD1 := hide (cells_drew G1.out)
  go_wp2
  go_region_with (go_at_call 10; (with_reducible refine (Do_c _ N 3 K y y _ GD1.out (by rw [hl1.out]; exact hbig) N y true (HS2.out.1.trans hNN.out) (HS2.out.2.1) (HS2.out.2.2) _ (hl1.out)).mono ?_); rintro e w2_ ⟨A2_, c2_, rfl, q2_, G2, hb2_⟩)
  all_goals
    have G2 := hide G2
    have hb2_ := undrew hb2_
    have y0 := keepc hb2_ y0
    have GM := hide (GM.out.below hb2_)
    have G1 := hide (G1.out.below hb2_)
    have hB := bcall hB hb2_
    go_wp2_with fail
    (with_reducible refine (Do_c _ N 3 K y y _ G1.out (by rw [hl1.out]; exact hbig) m y true (HS3.out.1.trans HB.out) (HS3.out.2.1) (HS3.out.2.2) _ (rfl)).mono ?_)
    rintro e w3_ ⟨A3_, c3_, rfl, q3_, G3, hb3_⟩
    have y0 := keepc hb3_ y0
    have GM := hide (GM.out.below hb3_)
    have G1 := hide (G1.out.below hb3_)
    have G2 := hide (G2.out.below hb3_)
    have hB := bcall hB hb3_
    have G3 := hide G3
    obtain ⟨r1, o1, rfl, -, z0⟩ := cells_at G1.out (k := K) HKN.out
    rw [HNK.out] at z0
    go_wp2_with fail
    (with_reducible refine (Same_any _ _ m m _ G3.out GM.out).mono ?_)
    rintro e w4_ ⟨rfl, hb4_⟩
    have y0 := keepc hb4_ y0
    have z0 := keepc hb4_ z0
    have GM := hide (GM.out.below hb4_)
    have G1 := hide (G1.out.below hb4_)
    have G2 := hide (G2.out.below hb4_)
    have G3 := hide (G3.out.below hb4_)
    have hB := bcall hB hb4_
    rw [decide_eq_true rfl]
    go_wp2
    go_ret
    exact ⟨rfl, hB⟩
theorem walk (v : Value) (m : List Int) (at0 a b : Int) (w : World) (h : Cells w v m) (hbig : m.length * 8 ≤ 140737488351232) (h0 : 0 ≤ at0) (h1 : at0 ≤ 255) : Calls Try.prog 5 #[v, .int .u8 at0, .int .u64 a, .int .u64 b] w fun e w' => e = .returned (.bool true) ∧ Below w.heap.size w w' := by
  by_cases hm : m.length = 0
  · exact walk_none v m at0 a b w h hbig h0 h1 hm
  · have hk : (at0 % (m.length : Int)).toNat < m.length := by have h2 := Int.emod_lt_of_pos at0 (b := (m.length : Int)) (by omega); have h3 := Int.emod_nonneg at0 (b := (m.length : Int)) (by omega); omega
    have hg := List.getElem?_eq_getElem hk
    by_cases hy : m[(at0 % (m.length : Int)).toNat] = a
    · rw [hy] at hg
      by_cases hb : b = a
      · subst hb; exact walk_same v m at0 b w h hbig h0 h1 hm hg
      · exact walk_yes v m at0 a b w h hbig h0 h1 hm hg hb
    · exact walk_no v m at0 a b w h hbig h0 h1 hm (fun y hy2 => by rw [hg] at hy2; injection hy2 with e; rw [← e]; exact hy)

set_option maxRecDepth 100000 in
theorem lifted (os : Os) (started : os.Started) (H : Type) (enc : TypeId × Value → H) :
    ReturnsInHanded {} Try.checked os 5 .any (Rows.memSwapsSpec.pre6 enc Try.prog Try.f5 Rows.memSwapsRow.domain false) (Rows.memSwapsSpec.post enc Try.prog Try.f5 false true false false) := by
  refine returnsInHanded_of_change_sized (C := Try.checked) ownL started (by kernel_rfl) Try.func5
    (ChangeSpec.witness6 (enc := enc) (C := Try.checked) false ⟨#[], #[.slice none 0 0, .int .u8 0, .int .u64 0, .int .u64 0], []⟩ 8 (by kernel_rfl) (by kernel_rfl) (by kernel_rfl) (by kernel_rfl)) ?_
  intro W base args ds gs before hval hW _ hsz0 _
  have hW' := hW
  obtain ⟨p, q, hA0, hV, rfl, hfz, hnd⟩ := hW
  have hA : DataW.TrodAll enc Try.prog W 0 (fun _ => true) true Try.f5.params.toList args.toList ds p := hA0
  rw [Try.params5] at hA hval
  obtain ⟨v0, vs0, d0, ds0, p0, q0, hargs, rfl, rfl, h0, r0⟩ := trodAll_cons hA
  obtain ⟨v1, vs1, d1, ds1, p1, q1, rfl, rfl, rfl, h1, r1⟩ := trodAll_cons r0
  obtain ⟨v2, vs2, d2, ds2, p2, q2, rfl, rfl, rfl, h2, r2⟩ := trodAll_cons r1
  obtain ⟨v3, vs3, d3, ds3, p3, q3, rfl, rfl, rfl, h3, r3⟩ := trodAll_cons r2
  obtain ⟨rfl, rfl, rfl⟩ := trodAll_nil r3
  obtain rfl : args = #[v0, v1, v2, v3] := by cases args; simp_all
  obtain ⟨rfl, rfl⟩ := trodVars_none hV
  obtain ⟨l0, hl0, hq0, hd0⟩ := open_cells (hval 0 23 v0 rfl rfl) h0
  obtain ⟨a1, rfl, rfl, rfl, w1⟩ := open_int Try.underlying5 (hval 1 5 v1 rfl rfl) h1
  have hx1 : 0 ≤ a1 ∧ a1 ≤ 255 := by simpa [Lit.wf, IntKind.min, IntKind.max, IntKind.signed, IntKind.bits] using w1
  obtain ⟨a2, rfl, rfl, rfl, w2⟩ := open_int Try.underlying24 (hval 2 24 v2 rfl rfl) h2
  have hx2 : 0 ≤ a2 ∧ a2 ≤ 18446744073709551615 := by simpa [Lit.wf, IntKind.min, IntKind.max, IntKind.signed, IntKind.bits] using w2
  obtain ⟨a3, rfl, rfl, rfl, w3⟩ := open_int Try.underlying24 (hval 3 24 v3 rfl rfl) h3
  have hx3 : 0 ≤ a3 ∧ a3 ≤ 18446744073709551615 := by simpa [Lit.wf, IntKind.min, IntKind.max, IntKind.signed, IntKind.bits] using w3
  have hsz : (DataW.weightsEach Try.prog [23, 5, 24, 24] ([d0, .lit (.int .u8 a1), .lit (.int .u64 a2), .lit (.int .u64 a3)] : List (DataW H))).all (· ≤ reachBytes) = true := hsz0
  have e0 : l0.length * 8 ≤ 140737488351232 := slice_reach hsz 0 rfl rfl Try.underlying23 (by kernel_rfl) hd0
  refine (walk v0 l0 a1 a2 a3 W hl0 (by omega) hx1.1 hx1.2).mono fun e W' ⟨he, hg⟩ => ?_
  subst he
  exact ⟨_, rfl, law_post laidOutL (by kernel_rfl) rfl Try.underlying4 rfl ⟨rfl, rfl, rfl⟩ hW' hg⟩

/-- THE STATEMENT -/
theorem proved : Rows.MemSwapsSaid :=
  OpenClaim.holds_of_wide 5 Try.f5 rfl rfl rfl rfl rfl rfl rfl ⟨rfl, rfl, rfl, rfl, rfl⟩ rfl rfl rfl rfl rfl (by kernel_rfl) Try.func5 (by kernel_rfl)
    (of_decide_eq_true (by kernel_rfl)) (by unfold Func.isWrapper; first | (rw [if_pos (by decide +kernel)]; kernel_rfl) | (rw [if_neg (by decide +kernel)]; exact ⟨rfl, rfl⟩))
    (fun os started H enc _ => lifted os started H enc)
end Go.Proofs.Ytncflfpmdcjmcaa.lawMemSwaps
