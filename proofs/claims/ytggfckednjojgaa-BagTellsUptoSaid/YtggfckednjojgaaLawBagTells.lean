/- BagTells: for any two bags, two numbers all is told as the chapter says, which the document itself tells. All arguments together at most 1048576 values. -/
import Derived.Test.YtggfckednjojgaaBagRefC
namespace Go.Proofs.Ytggfckednjojgaa.lawBagTells
open Go.RowKit Go.WideShapes Go.ChangeShapes Go.ChangeAt Go.Proofs Go.Proofs.Ytggfckednjojgaa

set_option maxRecDepth 100000 in
set_option maxHeartbeats 8000000 in
theorem walk (va vb : Value) (a b : List Int) (o n : Int) (w : World) (ho : Kw o) (hn : Kw n) (h0 : Ints w va a) (k0 : AllK a) (b0 : a.length + 1 ≤ 1048576) (h1 : Ints w vb b) (k1 : AllK b) (b1 : b.length + 1 ≤ 1048576) : Calls Try.prog 3 #[va, vb, .int .i64 o, .int .i64 n] w fun e w' => e = .returned (.bool true) ∧ Below w.heap.size w w' := by
  have hB : Below w.heap.size w w := Below.refl _ _
  obtain ⟨Aa, ca, rfl, pa, ra⟩ := sl_form h0
  have Ga := hide h0
  have Ka := hide k0
  have la : a.length ≤ 1048575 := by omega
  obtain ⟨Ab, cb, rfl, pb, rb⟩ := sl_form h1
  have Gb := hide h1
  have Kb := hide k1
  have lb : b.length ≤ 1048575 := by omega
  clear h0 k0 b0 h1 k1 b1
  have lx0 : (lessL a b).length ≤ 1048575 := by
    unfold lessL
    cases hx : lessB a b with
    | none => simp
    | some l => have := (less_allK Ka.out hx).2; simp only [Option.getD_some]; omega
  obtain ⟨x, ex⟩ : ∃ x, lessL a b = x := ⟨_, rfl⟩
  rw [ex] at lx0
  have lx := lx0
  clear lx0
  obtain ⟨t, et⟩ : ∃ x, (lessB a b).isSome = x := ⟨_, rfl⟩
  obtain ⟨V, eV⟩ : ∃ x, ((onceV a : Nat) : Int) = x := ⟨_, rfl⟩
  obtain ⟨p, ep⟩ : ∃ x, onceB a = x := ⟨_, rfl⟩
  have ld0 := add_len_le a o n
  obtain ⟨d, ed⟩ : ∃ x, addB a o n = x := ⟨_, rfl⟩
  rw [ed] at ld0
  have ld : d.length ≤ 1049575 := by omega
  clear ld0
  have ln0 := norm_len a
  obtain ⟨N, eN⟩ : ∃ x, normB a = x := ⟨_, rfl⟩
  rw [eN] at ln0
  obtain ⟨k, ek⟩ : ∃ x, ((a.count o : Nat) : Int) = x := ⟨_, rfl⟩
  have ls0 := sum_len a b
  obtain ⟨S, eS⟩ : ∃ x, sumB a b = x := ⟨_, rfl⟩
  rw [eS] at ls0
  obtain ⟨z, ez⟩ : ∃ x, sameB a b = x := ⟨_, rfl⟩
  have ex := hide ex
  have et := hide et
  have eV := hide eV
  have ep := hide ep
  have ed := hide ed
  have eN := hide eN
  have ek := hide ek
  have eS := hide eS
  have ez := hide ez
  clear ln0 ls0
  have qt : (t != t) = false := by simp
  have qp : (p != p) = false := by simp
  have qV : (V != V) = false := by simp
  have qk : (k == k) = true := by simp
  have qz : (z == z) = true := by simp
  go_enter Try.func3, Try.ntmps3
  go_wp2_with fail
  (with_reducible refine (examples_any _).mono ?_)
  rintro e w0_ ⟨rfl, hb0_⟩
  have Ga := hide (Ga.out.below hb0_)
  have Gb := hide (Gb.out.below hb0_)
  have hB := bcall hB hb0_
  go_wp2_with fail
  (with_reducible refine (Less_c _ _ a b _ Ga.out Gb.out Ka.out Kb.out (Nat.le_trans la (by decide)) x (ex.out) t (et.out) _ (rfl)).mono ?_)
  rintro e w1_ ⟨A1_, c1_, rfl, q1_, Gx, hb1_⟩
  have Ga := hide (Ga.out.below hb1_)
  have Gb := hide (Gb.out.below hb1_)
  have hB := bcall hB hb1_
  have Gx := hide Gx
  go_wp2_with fail
  (with_reducible refine (rLess_c _ _ a b _ Ga.out Gb.out (Nat.le_trans la (by decide)) x ex.out t et.out _ rfl).mono ?_)
  rintro e w2_ ⟨A2_, c2_, rfl, q2_, Hx, hb2_⟩
  have Ga := hide (Ga.out.below hb2_)
  have Gb := hide (Gb.out.below hb2_)
  have Gx := hide (Gx.out.below hb2_)
  have hB := bcall hB hb2_
  have Hx := hide Hx
  go_wp2_with fail
  (with_reducible refine (Once_c _ a _ Ga.out Ka.out V (eV.out) p (ep.out)).mono ?_)
  rintro e w3_ ⟨rfl, hb3_⟩
  have Ga := hide (Ga.out.below hb3_)
  have Gb := hide (Gb.out.below hb3_)
  have Gx := hide (Gx.out.below hb3_)
  have Hx := hide (Hx.out.below hb3_)
  have hB := bcall hB hb3_
  go_wp2_with fail
  (with_reducible refine (rOnce_c _ a _ Ga.out Ka.out V eV.out p ep.out).mono ?_)
  rintro e w4_ ⟨rfl, hb4_⟩
  have Ga := hide (Ga.out.below hb4_)
  have Gb := hide (Gb.out.below hb4_)
  have Gx := hide (Gx.out.below hb4_)
  have Hx := hide (Hx.out.below hb4_)
  have hB := bcall hB hb4_
  go_wp2_with fail
  (with_reducible refine (ints_c _ _ x x _ Gx.out Hx.out true (decide_eq_true rfl)).mono ?_)
  rintro e w5_ ⟨rfl, hb5_⟩
  have Ga := hide (Ga.out.below hb5_)
  have Gb := hide (Gb.out.below hb5_)
  have Gx := hide (Gx.out.below hb5_)
  have Hx := hide (Hx.out.below hb5_)
  have hB := bcall hB hb5_
  go_wp2_with fail
  (with_reducible refine (Add_c _ a o n _ Ga.out Ka.out ho hn (Nat.lt_of_le_of_lt la (by decide)) d (ed.out) (Nat.le_trans ld (by decide)) _ (rfl)).mono ?_)
  rintro e w6_ ⟨A6_, c6_, rfl, q6_, Gd, hb6_⟩
  have Ga := hide (Ga.out.below hb6_)
  have Gb := hide (Gb.out.below hb6_)
  have Gx := hide (Gx.out.below hb6_)
  have Hx := hide (Hx.out.below hb6_)
  have hB := bcall hB hb6_
  have Gd := hide Gd
  go_wp2_with fail
  (with_reducible refine (rAdd_c _ a o n _ Ga.out hn (Nat.le_trans la (by decide)) d ed.out _ rfl).mono ?_)
  rintro e w7_ ⟨A7_, c7_, rfl, q7_, Hd, hb7_⟩
  have Ga := hide (Ga.out.below hb7_)
  have Gb := hide (Gb.out.below hb7_)
  have Gx := hide (Gx.out.below hb7_)
  have Hx := hide (Hx.out.below hb7_)
  have Gd := hide (Gd.out.below hb7_)
  have hB := bcall hB hb7_
  have Hd := hide Hd
  go_wp2_with fail
  (with_reducible refine (ints_c _ _ d d _ Gd.out Hd.out true (decide_eq_true rfl)).mono ?_)
  rintro e w8_ ⟨rfl, hb8_⟩
  have Ga := hide (Ga.out.below hb8_)
  have Gb := hide (Gb.out.below hb8_)
  have Gx := hide (Gx.out.below hb8_)
  have Hx := hide (Hx.out.below hb8_)
  have Gd := hide (Gd.out.below hb8_)
  have Hd := hide (Hd.out.below hb8_)
  have hB := bcall hB hb8_
  go_wp2_with fail
  (with_reducible refine (Norm_c _ a _ Ga.out Ka.out (Nat.le_trans la (by decide)) N (eN.out) _ (rfl)).mono ?_)
  rintro e w9_ ⟨A9_, c9_, rfl, q9_, Gn, hb9_⟩
  have Ga := hide (Ga.out.below hb9_)
  have Gb := hide (Gb.out.below hb9_)
  have Gx := hide (Gx.out.below hb9_)
  have Hx := hide (Hx.out.below hb9_)
  have Gd := hide (Gd.out.below hb9_)
  have Hd := hide (Hd.out.below hb9_)
  have hB := bcall hB hb9_
  have Gn := hide Gn
  go_wp2_with fail
  (with_reducible refine (rNorm_c _ a _ Ga.out (Nat.le_trans la (by decide)) N eN.out _ rfl).mono ?_)
  rintro e w10_ ⟨A10_, c10_, rfl, q10_, Hn, hb10_⟩
  have Ga := hide (Ga.out.below hb10_)
  have Gb := hide (Gb.out.below hb10_)
  have Gx := hide (Gx.out.below hb10_)
  have Hx := hide (Hx.out.below hb10_)
  have Gd := hide (Gd.out.below hb10_)
  have Hd := hide (Hd.out.below hb10_)
  have Gn := hide (Gn.out.below hb10_)
  have hB := bcall hB hb10_
  have Hn := hide Hn
  go_wp2_with fail
  (with_reducible refine (ints_c _ _ N N _ Gn.out Hn.out true (decide_eq_true rfl)).mono ?_)
  rintro e w11_ ⟨rfl, hb11_⟩
  have Ga := hide (Ga.out.below hb11_)
  have Gb := hide (Gb.out.below hb11_)
  have Gx := hide (Gx.out.below hb11_)
  have Hx := hide (Hx.out.below hb11_)
  have Gd := hide (Gd.out.below hb11_)
  have Hd := hide (Hd.out.below hb11_)
  have Gn := hide (Gn.out.below hb11_)
  have Hn := hide (Hn.out.below hb11_)
  have hB := bcall hB hb11_
  go_wp2_with fail
  (with_reducible refine (Count_c _ a o _ Ga.out Ka.out ho (Nat.le_trans la (by decide)) k (ek.out)).mono ?_)
  rintro e w12_ ⟨rfl, hb12_⟩
  have Ga := hide (Ga.out.below hb12_)
  have Gb := hide (Gb.out.below hb12_)
  have Gx := hide (Gx.out.below hb12_)
  have Hx := hide (Hx.out.below hb12_)
  have Gd := hide (Gd.out.below hb12_)
  have Hd := hide (Hd.out.below hb12_)
  have Gn := hide (Gn.out.below hb12_)
  have Hn := hide (Hn.out.below hb12_)
  have hB := bcall hB hb12_
  go_wp2_with fail
  (with_reducible refine (rCount_c _ a o _ Ga.out (Nat.le_trans la (by decide)) k ek.out).mono ?_)
  rintro e w13_ ⟨rfl, hb13_⟩
  have Ga := hide (Ga.out.below hb13_)
  have Gb := hide (Gb.out.below hb13_)
  have Gx := hide (Gx.out.below hb13_)
  have Hx := hide (Hx.out.below hb13_)
  have Gd := hide (Gd.out.below hb13_)
  have Hd := hide (Hd.out.below hb13_)
  have Gn := hide (Gn.out.below hb13_)
  have Hn := hide (Hn.out.below hb13_)
  have hB := bcall hB hb13_
  go_wp2_with fail
  (with_reducible refine (Sum_c _ _ a b _ Ga.out Gb.out Ka.out Kb.out (Nat.le_trans (Nat.add_le_add la lb) (by decide)) S (eS.out) _ (rfl)).mono ?_)
  rintro e w14_ ⟨A14_, c14_, rfl, q14_, Gs, hb14_⟩
  have Ga := hide (Ga.out.below hb14_)
  have Gb := hide (Gb.out.below hb14_)
  have Gx := hide (Gx.out.below hb14_)
  have Hx := hide (Hx.out.below hb14_)
  have Gd := hide (Gd.out.below hb14_)
  have Hd := hide (Hd.out.below hb14_)
  have Gn := hide (Gn.out.below hb14_)
  have Hn := hide (Hn.out.below hb14_)
  have hB := bcall hB hb14_
  have Gs := hide Gs
  go_wp2_with fail
  (with_reducible refine (rSum_c _ _ a b _ Ga.out Gb.out (Nat.le_trans (Nat.add_le_add la lb) (by decide)) S eS.out _ rfl).mono ?_)
  rintro e w15_ ⟨A15_, c15_, rfl, q15_, Hs, hb15_⟩
  have Ga := hide (Ga.out.below hb15_)
  have Gb := hide (Gb.out.below hb15_)
  have Gx := hide (Gx.out.below hb15_)
  have Hx := hide (Hx.out.below hb15_)
  have Gd := hide (Gd.out.below hb15_)
  have Hd := hide (Hd.out.below hb15_)
  have Gn := hide (Gn.out.below hb15_)
  have Hn := hide (Hn.out.below hb15_)
  have Gs := hide (Gs.out.below hb15_)
  have hB := bcall hB hb15_
  have Hs := hide Hs
  go_wp2_with fail
  (with_reducible refine (ints_c _ _ S S _ Gs.out Hs.out true (decide_eq_true rfl)).mono ?_)
  rintro e w16_ ⟨rfl, hb16_⟩
  have Ga := hide (Ga.out.below hb16_)
  have Gb := hide (Gb.out.below hb16_)
  have Gx := hide (Gx.out.below hb16_)
  have Hx := hide (Hx.out.below hb16_)
  have Gd := hide (Gd.out.below hb16_)
  have Hd := hide (Hd.out.below hb16_)
  have Gn := hide (Gn.out.below hb16_)
  have Hn := hide (Hn.out.below hb16_)
  have Gs := hide (Gs.out.below hb16_)
  have Hs := hide (Hs.out.below hb16_)
  have hB := bcall hB hb16_
  go_wp2_with fail
  (with_reducible refine (Same_c _ _ a b _ Ga.out Gb.out Ka.out Kb.out (Nat.le_trans la (by decide)) (Nat.le_trans lb (by decide)) z (ez.out)).mono ?_)
  rintro e w17_ ⟨rfl, hb17_⟩
  have Ga := hide (Ga.out.below hb17_)
  have Gb := hide (Gb.out.below hb17_)
  have Gx := hide (Gx.out.below hb17_)
  have Hx := hide (Hx.out.below hb17_)
  have Gd := hide (Gd.out.below hb17_)
  have Hd := hide (Hd.out.below hb17_)
  have Gn := hide (Gn.out.below hb17_)
  have Hn := hide (Hn.out.below hb17_)
  have Gs := hide (Gs.out.below hb17_)
  have Hs := hide (Hs.out.below hb17_)
  have hB := bcall hB hb17_
  go_wp2_with fail
  (with_reducible refine (rSame_c _ _ a b _ Ga.out Gb.out (Nat.le_trans la (by decide)) (Nat.le_trans lb (by decide)) z ez.out).mono ?_)
  rintro e w18_ ⟨rfl, hb18_⟩
  have Ga := hide (Ga.out.below hb18_)
  have Gb := hide (Gb.out.below hb18_)
  have Gx := hide (Gx.out.below hb18_)
  have Hx := hide (Hx.out.below hb18_)
  have Gd := hide (Gd.out.below hb18_)
  have Hd := hide (Hd.out.below hb18_)
  have Gn := hide (Gn.out.below hb18_)
  have Hn := hide (Hn.out.below hb18_)
  have Gs := hide (Gs.out.below hb18_)
  have Hs := hide (Hs.out.below hb18_)
  have hB := bcall hB hb18_
  go_wp2
  go_ret
  exact ⟨rfl, hB⟩

set_option maxRecDepth 100000 in
theorem lifted (os : Os) (started : os.Started) (H : Type) (enc : TypeId × Value → H) (F : Stop.Interp) :
    ReturnsInHanded {} Try.checked os 3 .any ((Rows.OpenSpec.upto Rows.bagTellsSpec).pre6 enc Try.prog Try.f3 Rows.bagTellsUptoRow.domain false) (((Rows.OpenSpec.upto Rows.bagTellsSpec).at F).post enc Try.prog Try.f3 false true false false) := by
  refine returnsInHanded_of_cond_sized (C := Try.checked) (s := Rows.OpenSpec.upto Rows.bagTellsSpec) (k := Rows.uptoSmall) rfl ownL started (by kernel_rfl) Try.func3
    (OpenSpec.witness (enc := enc) (C := Try.checked) (s := Rows.OpenSpec.upto Rows.bagTellsSpec) (k := Rows.uptoSmall) rfl false ⟨#[], #[.slice none 0 0, .slice none 0 0, .int .i64 0, .int .i64 0], []⟩ 8 (by kernel_rfl) (by kernel_rfl) (by kernel_rfl)
      (x := ([.nil, .nil, .lit (.int .i64 0), .lit (.int .i64 0)], [], [])) (by kernel_rfl) rfl (by kernel_rfl)) ?_
  intro W base args ds gs before hval hW _ hk0 hsz0 _
  have hW' := hW
  obtain ⟨p, q, hA0, hV, rfl, hfz, hnd⟩ := hW
  have hA : DataW.TrodAll enc Try.prog W 0 (fun _ => true) true Try.f3.params.toList args.toList ds p := hA0
  rw [Try.params3] at hA hval
  obtain ⟨v0, vs0, d0, ds0, p0, q0, hargs, rfl, rfl, h0, r0⟩ := trodAll_cons hA
  obtain ⟨v1, vs1, d1, ds1, p1, q1, rfl, rfl, rfl, h1, r1⟩ := trodAll_cons r0
  obtain ⟨v2, vs2, d2, ds2, p2, q2, rfl, rfl, rfl, h2, r2⟩ := trodAll_cons r1
  obtain ⟨v3, vs3, d3, ds3, p3, q3, rfl, rfl, rfl, h3, r3⟩ := trodAll_cons r2
  obtain ⟨rfl, rfl, rfl⟩ := trodAll_nil r3
  obtain rfl : args = #[v0, v1, v2, v3] := by cases args; simp_all
  obtain ⟨rfl, rfl⟩ := trodVars_none hV
  obtain ⟨l0, hl0, hq0, hd0⟩ := open_bag (hval 0 23 v0 rfl rfl) h0
  obtain ⟨l1, hl1, hq1, hd1⟩ := open_bag (hval 1 23 v1 rfl rfl) h1
  obtain ⟨a2, rfl, rfl, rfl, w2⟩ := open_int Try.underlying3 (hval 2 3 v2 rfl rfl) h2
  have hx2 : -9223372036854775808 ≤ a2 ∧ a2 ≤ 9223372036854775807 := by simpa [Lit.wf, IntKind.min, IntKind.max, IntKind.signed, IntKind.bits] using w2
  obtain ⟨a3, rfl, rfl, rfl, w3⟩ := open_int Try.underlying3 (hval 3 3 v3 rfl rfl) h3
  have hx3 : -9223372036854775808 ≤ a3 ∧ a3 ≤ 9223372036854775807 := by simpa [Lit.wf, IntKind.min, IntKind.max, IntKind.signed, IntKind.bits] using w3
  have hk : Rows.uptoBulkAll ([d0, d1, .lit (.int .i64 a2), .lit (.int .i64 a3)] : List (DataW H)) ≤ 1048576 := of_decide_eq_true hk0
  have e0 : l0.length + 1 ≤ 1048576 := by have h1 := slice_bulk hd0; have h2 := bulk_mem hk 0 rfl; omega
  have e1 : l1.length + 1 ≤ 1048576 := by have h1 := slice_bulk hd1; have h2 := bulk_mem hk 1 rfl; omega
  refine (walk v0 v1 l0 l1 a2 a3 W hx2 hx3 hl0 hq0 (by omega) hl1 hq1 (by omega)).mono fun e W' ⟨he, hg⟩ => ?_
  subst he
  exact ⟨_, rfl, law_post laidOutL (by kernel_rfl) rfl Try.underlying4 rfl ⟨rfl, rfl, rfl⟩ hW' hg⟩

/-- THE STATEMENT -/
theorem proved : Rows.BagTellsUptoSaid :=
  OpenClaim.holds_of_cond 3 Try.f3 rfl rfl rfl rfl rfl rfl rfl ⟨rfl, rfl, rfl, rfl, rfl⟩ rfl rfl rfl rfl rfl (by kernel_rfl) Try.func3 (by kernel_rfl)
    (of_decide_eq_true (by kernel_rfl)) (by unfold Func.isWrapper; first | (rw [if_pos (by decide +kernel)]; kernel_rfl) | (rw [if_neg (by decide +kernel)]; exact ⟨rfl, rfl⟩))
    (fun os started H enc _ F => lifted os started H enc F)
end Go.Proofs.Ytggfckednjojgaa.lawBagTells
