/- BagAdds: for any bag, a number, how often: one that is added so often is there so much more often; taken out again it is as it was; more than are there can't be taken. No condition. -/
import Derived.Test.YtggfckednjojgaaBagOpen
namespace Go.Proofs.Ytggfckednjojgaa.lawBagAdds
open Go.RowKit Go.WideShapes Go.ChangeShapes Go.ChangeAt Go.Proofs Go.Proofs.Ytggfckednjojgaa

set_option maxRecDepth 100000 in
set_option maxHeartbeats 8000000 in
theorem walk (va : Value) (a : List Int) (o n : Int) (w : World) (ho : Kw o) (n0 : 0 ≤ n) (n1 : n ≤ 255) (h0 : Ints w va a) (k0 : AllK a) (b0 : a.length * 8 ≤ 140737488351232) : Calls Try.prog 7 #[va, .int .i64 o, .int .u8 n] w fun e w' => e = .returned (.bool true) ∧ Below w.heap.size w w' := by
  obtain ⟨k, hk, hk20⟩ : ∃ k : Nat, n % 20 = (k : Int) ∧ k < 20 := ⟨(n % 20).toNat, by omega, by omega⟩
  have hkk : Kw (k : Int) := by unfold Kw; omega
  have hkn : Kw (-(k : Int)) := by unfold Kw; omega
  have hk0 : 0 ≤ (k : Int) := by omega
  have hB : Below w.heap.size w w := Below.refl _ _
  obtain ⟨Aa, ca, rfl, pa, ra⟩ := sl_form h0
  have Ga := hide h0
  have Ka := hide k0
  have la : a.length ≤ 17592186043904 := by omega
  clear h0 k0 b0
  have f1 := adds_up a o k (by omega)
  have f2 := adds_back a o k (by omega)
  have f3 := adds_down a o k
  have f4 := adds_len a o k
  have f5 := adds_none a o (-4611686018427387904) rfl (by omega)
  have Km := add_allK (n := k) Ka.out ho
  have lm : (addB a o k).length ≤ 17592186043923 := by have := add_len_le a o k; have e : (k : Int).toNat = k := rfl; omega
  obtain ⟨m, em⟩ : ∃ m, addB a o k = m := ⟨_, rfl⟩
  rw [em] at Km lm
  rw [em] at f1 f2
  have Kx := add_allK (n := -(k : Int)) Km ho
  have lx : (addB m o (-(k : Int))).length ≤ 17592186044416 := by have := add_len_le m o (-(k : Int)); omega
  obtain ⟨x, ex⟩ : ∃ x, addB m o (-(k : Int)) = x := ⟨_, rfl⟩
  rw [ex] at Kx lx
  rw [ex] at f2
  have Ky := add_allK (n := -(k : Int)) Ka.out ho
  have ly : (addB a o (-(k : Int))).length ≤ 17592186044416 := by have := add_len_le a o (-(k : Int)); omega
  obtain ⟨y, ey⟩ : ∃ y, addB a o (-(k : Int)) = y := ⟨_, rfl⟩
  rw [ey] at Ky ly
  rw [ey] at f3 f4
  have Kz := add_allK (n := -4611686018427387904) Ka.out ho
  have lz : (addB a o (-4611686018427387904)).length ≤ 17592186044416 := by have := add_len_le a o (-4611686018427387904); omega
  obtain ⟨z, ez⟩ : ∃ z, addB a o (-4611686018427387904) = z := ⟨_, rfl⟩
  rw [ez] at Kz lz
  rw [ez] at f5
  have hca : a.count o ≤ a.length := List.count_le_length
  obtain ⟨c, hc⟩ : ∃ c : Int, ((a.count o : Nat) : Int) = c := ⟨_, rfl⟩
  have hc0 : 0 ≤ c ∧ c ≤ 17592186044416 := by omega
  obtain ⟨hc0, hc1⟩ := hc0
  rw [hc] at f1 f3 f4
  have f5 := hide (show ((z.count o : Nat) : Int) = 0 by rw [f5]; rfl)
  have f1 := hide f1
  have f2 := hide f2
  have f3 := hide f3
  have f4 := hide f4
  have hc := hide hc
  clear hca
  have q1 : ((c + k : Int) == c + k) = true := by simp
  have q2 : (max (c - k) 0 == max (c - k) 0) = true := by simp
  have q3 : ((y.length : Int) == (a.length : Int) - min c k) = true := by rw [beq_iff_eq]; exact f4.out
  have Km := hide Km
  have em := hide em
  have Kx := hide Kx
  have ex := hide ex
  have Ky := hide Ky
  have ey := hide ey
  have Kz := hide Kz
  have ez := hide ez
  go_enter Try.func7, Try.ntmps7
  go_wp2_with fail
  (with_reducible refine (examples_any _).mono ?_)
  rintro e w0_ ⟨rfl, hb0_⟩
  have Ga := hide (Ga.out.below hb0_)
  have hB := bcall hB hb0_
  have HK := hide hk
  go_wp2_with fail
  (with_reducible refine (Add_c _ a o k _ Ga.out Ka.out ho hkk (Nat.lt_of_le_of_lt la (by decide)) m (em.out) (Nat.le_trans lm (by decide)) _ (rfl)).mono ?_)
  rintro e w1_ ⟨A1_, c1_, rfl, q1_, Gm, hb1_⟩
  have Ga := hide (Ga.out.below hb1_)
  have hB := bcall hB hb1_
  have Gm := hide Gm
  go_wp2_with fail
  (with_reducible refine (Count_c _ a o _ Ga.out Ka.out ho (Nat.le_trans la (by decide)) c (hc.out)).mono ?_)
  rintro e w2_ ⟨rfl, hb2_⟩
  have Ga := hide (Ga.out.below hb2_)
  have Gm := hide (Gm.out.below hb2_)
  have hB := bcall hB hb2_
  go_wp2_with fail
  (with_reducible refine (Add_c _ a o (-(k : Int)) _ Ga.out Ka.out ho hkn (Nat.lt_of_le_of_lt la (by decide)) y (ey.out) ly _ (rfl)).mono ?_)
  rintro e w3_ ⟨A3_, c3_, rfl, q3_, Gy, hb3_⟩
  have Ga := hide (Ga.out.below hb3_)
  have Gm := hide (Gm.out.below hb3_)
  have hB := bcall hB hb3_
  have Gy := hide Gy
  go_wp2_with fail
  (with_reducible refine (Count_c _ m o _ Gm.out Km.out ho (Nat.le_trans lm (by decide)) (c + k) (f1.out)).mono ?_)
  rintro e w4_ ⟨rfl, hb4_⟩
  have Ga := hide (Ga.out.below hb4_)
  have Gm := hide (Gm.out.below hb4_)
  have Gy := hide (Gy.out.below hb4_)
  have hB := bcall hB hb4_
  go_wp2_with fail
  (with_reducible refine (Add_c _ m o (-(k : Int)) _ Gm.out Km.out ho hkn (Nat.lt_of_le_of_lt lm (by decide)) x (ex.out) lx _ (rfl)).mono ?_)
  rintro e w5_ ⟨A5_, c5_, rfl, q5_, Gx, hb5_⟩
  have Ga := hide (Ga.out.below hb5_)
  have Gm := hide (Gm.out.below hb5_)
  have Gy := hide (Gy.out.below hb5_)
  have hB := bcall hB hb5_
  have Gx := hide Gx
  go_wp2_with fail
  (with_reducible refine (Same_c _ _ x a _ Gx.out Ga.out Kx.out Ka.out lx (Nat.le_trans la (by decide)) true (f2.out)).mono ?_)
  rintro e w6_ ⟨rfl, hb6_⟩
  have Ga := hide (Ga.out.below hb6_)
  have Gm := hide (Gm.out.below hb6_)
  have Gy := hide (Gy.out.below hb6_)
  have Gx := hide (Gx.out.below hb6_)
  have hB := bcall hB hb6_
  go_wp2_with fail
  (with_reducible refine (Count_c _ y o _ Gy.out Ky.out ho (Nat.le_trans ly (by decide)) (max (c - k) 0) (f3.out)).mono ?_)
  rintro e w7_ ⟨rfl, hb7_⟩
  have Ga := hide (Ga.out.below hb7_)
  have Gm := hide (Gm.out.below hb7_)
  have Gy := hide (Gy.out.below hb7_)
  have Gx := hide (Gx.out.below hb7_)
  have hB := bcall hB hb7_
  go_wp2_with fail
  (with_reducible refine (Add_c _ a o (-4611686018427387904) _ Ga.out Ka.out ho (by decide) (Nat.lt_of_le_of_lt la (by decide)) z (ez.out) lz _ (rfl)).mono ?_)
  rintro e w8_ ⟨A8_, c8_, rfl, q8_, Gz, hb8_⟩
  have Ga := hide (Ga.out.below hb8_)
  have Gm := hide (Gm.out.below hb8_)
  have Gy := hide (Gy.out.below hb8_)
  have Gx := hide (Gx.out.below hb8_)
  have hB := bcall hB hb8_
  have Gz := hide Gz
  go_wp2_with fail
  (with_reducible refine (Count_c _ z o _ Gz.out Kz.out ho (Nat.le_trans lz (by decide)) 0 (f5.out)).mono ?_)
  rintro e w9_ ⟨rfl, hb9_⟩
  have Ga := hide (Ga.out.below hb9_)
  have Gm := hide (Gm.out.below hb9_)
  have Gy := hide (Gy.out.below hb9_)
  have Gx := hide (Gx.out.below hb9_)
  have Gz := hide (Gz.out.below hb9_)
  have hB := bcall hB hb9_
  go_wp2
  go_ret
  exact ⟨rfl, hB⟩

set_option maxRecDepth 100000 in
theorem lifted (os : Os) (started : os.Started) (H : Type) (enc : TypeId × Value → H) :
    ReturnsInHanded {} Try.checked os 7 .any (Rows.bagAddsSpec.pre6 enc Try.prog Try.f7 Rows.bagAddsRow.domain false) (Rows.bagAddsSpec.post enc Try.prog Try.f7 false true false false) := by
  refine returnsInHanded_of_change_sized (C := Try.checked) ownL started (by kernel_rfl) Try.func7
    (ChangeSpec.witness6 (enc := enc) (C := Try.checked) false ⟨#[], #[.slice none 0 0, .int .i64 0, .int .u8 0], []⟩ 8 (by kernel_rfl) (by kernel_rfl) (by kernel_rfl) (by kernel_rfl)) ?_
  intro W base args ds gs before hval hW _ hsz0 _
  have hW' := hW
  obtain ⟨p, q, hA0, hV, rfl, hfz, hnd⟩ := hW
  have hA : DataW.TrodAll enc Try.prog W 0 (fun _ => true) true Try.f7.params.toList args.toList ds p := hA0
  rw [Try.params7] at hA hval
  obtain ⟨v0, vs0, d0, ds0, p0, q0, hargs, rfl, rfl, h0, r0⟩ := trodAll_cons hA
  obtain ⟨v1, vs1, d1, ds1, p1, q1, rfl, rfl, rfl, h1, r1⟩ := trodAll_cons r0
  obtain ⟨v2, vs2, d2, ds2, p2, q2, rfl, rfl, rfl, h2, r2⟩ := trodAll_cons r1
  obtain ⟨rfl, rfl, rfl⟩ := trodAll_nil r2
  obtain rfl : args = #[v0, v1, v2] := by cases args; simp_all
  obtain ⟨rfl, rfl⟩ := trodVars_none hV
  obtain ⟨l0, hl0, hq0, hd0⟩ := open_bag (hval 0 23 v0 rfl rfl) h0
  obtain ⟨a1, rfl, rfl, rfl, w1⟩ := open_int Try.underlying3 (hval 1 3 v1 rfl rfl) h1
  have hx1 : -9223372036854775808 ≤ a1 ∧ a1 ≤ 9223372036854775807 := by simpa [Lit.wf, IntKind.min, IntKind.max, IntKind.signed, IntKind.bits] using w1
  obtain ⟨a2, rfl, rfl, rfl, w2⟩ := open_int Try.underlying5 (hval 2 5 v2 rfl rfl) h2
  have hx2 : 0 ≤ a2 ∧ a2 ≤ 255 := by simpa [Lit.wf, IntKind.min, IntKind.max, IntKind.signed, IntKind.bits] using w2
  have hsz : (DataW.weightsEach Try.prog [23, 3, 5] ([d0, .lit (.int .i64 a1), .lit (.int .u8 a2)] : List (DataW H))).all (· ≤ reachBytes) = true := hsz0
  have e0 : l0.length * 8 ≤ 140737488351232 := slice_reach hsz 0 rfl rfl Try.underlying23 (by kernel_rfl) hd0
  refine (walk v0 l0 a1 a2 W hx1 hx2.1 hx2.2 hl0 hq0 (by omega)).mono fun e W' ⟨he, hg⟩ => ?_
  subst he
  exact ⟨_, rfl, law_post laidOutL (by kernel_rfl) rfl Try.underlying4 rfl ⟨rfl, rfl, rfl⟩ hW' hg⟩

/-- THE STATEMENT -/
theorem proved : Rows.BagAddsSaid :=
  OpenClaim.holds_of_wide 7 Try.f7 rfl rfl rfl rfl rfl rfl rfl ⟨rfl, rfl, rfl, rfl, rfl⟩ rfl rfl rfl rfl rfl (by kernel_rfl) Try.func7 (by kernel_rfl)
    (of_decide_eq_true (by kernel_rfl)) (by unfold Func.isWrapper; first | (rw [if_pos (by decide +kernel)]; kernel_rfl) | (rw [if_neg (by decide +kernel)]; exact ⟨rfl, rfl⟩))
    (fun os started H enc _ => lifted os started H enc)
end Go.Proofs.Ytggfckednjojgaa.lawBagAdds
