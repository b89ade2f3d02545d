/- BagSums: for any two bags, a number: what was summed is left when one part is taken out, whichever; sums may change places; each is there as often as in both. All arguments together at most 1048576 values. -/
import Derived.Test.YtggfckednjojgaaBagOpen
namespace Go.Proofs.Ytggfckednjojgaa.lawBagSums
open Go.RowKit Go.WideShapes Go.ChangeShapes Go.ChangeAt Go.Proofs Go.Proofs.Ytggfckednjojgaa

set_option maxRecDepth 100000 in
set_option maxHeartbeats 8000000 in
theorem walk (va vb : Value) (a b : List Int) (o : Int) (w : World) (ho : Kw o) (h0 : Ints w va a) (k0 : AllK a) (b0 : a.length + 1 ≤ 1048576) (h1 : Ints w vb b) (k1 : AllK b) (b1 : b.length + 1 ≤ 1048576) : Calls Try.prog 4 #[va, vb, .int .i64 o] w fun e w' => e = .returned (.bool true) ∧ Below w.heap.size w w' := by
  have hB : Below w.heap.size w w := Below.refl _ _
  obtain ⟨Aa, ca, rfl, pa, ra⟩ := sl_form h0
  have Ga := hide h0
  have Ka := hide k0
  have la : a.length ≤ 1048575 := by omega
  obtain ⟨Ab, cb, rfl, pb, rb⟩ := sl_form h1
  have Gb := hide h1
  have Kb := hide k1
  have lb : b.length ≤ 1048575 := by omega
  clear h0 k0 b0 h1 k1 b1
  have f1 := sum_same a b
  have f2 := sum_count a b o
  have f3 := sum_len a b
  obtain ⟨x, hx, fx⟩ := less_sum1 a b
  obtain ⟨y, hy, fy⟩ := less_sum2 a b
  have KT := sum_allK Kb.out Ka.out
  have lT : (sumB b a).length ≤ 2097150 := by rw [sum_len]; omega
  have Ks := sum_allK Ka.out Kb.out
  have ls : (sumB a b).length ≤ 2097150 := by rw [sum_len]; omega
  obtain ⟨s, es⟩ : ∃ s, sumB a b = s := ⟨_, rfl⟩
  rw [es] at Ks ls
  obtain ⟨t, et⟩ : ∃ t, sumB b a = t := ⟨_, rfl⟩
  rw [et] at KT lT
  have Kt := hide KT
  have lt := lT
  have et := hide et
  clear KT lT
  rw [es] at hx hy f1 f2 f3
  rw [et.out] at f1
  obtain ⟨Kx, lx⟩ := less_allK Ks hx
  obtain ⟨Ky, ly⟩ := less_allK Ks hy
  have Kx := hide Kx
  have Ky := hide Ky
  have Ks := hide Ks
  have es := hide es
  have ex := hide (show lessL s a = x by unfold lessL; rw [hx]; rfl)
  have ey := hide (show lessL s b = y by unfold lessL; rw [hy]; rfl)
  have tx := hide (show (lessB s a).isSome = true by rw [hx]; rfl)
  have ty := hide (show (lessB s b).isSome = true by rw [hy]; rfl)
  have f1 := hide f1
  have fx := hide fx
  have fy := hide fy
  have hca : a.count o ≤ a.length := List.count_le_length
  have hcb : b.count o ≤ b.length := List.count_le_length
  obtain ⟨m, hm⟩ : ∃ m : Nat, a.count o = m := ⟨_, rfl⟩
  obtain ⟨n, hn⟩ : ∃ n : Nat, b.count o = n := ⟨_, rfl⟩
  rw [hm] at f2 hca
  rw [hn] at f2 hcb
  have f2 := hide (show ((s.count o : Nat) : Int) = (m : Int) + n by omega)
  have hm := hide (show ((a.count o : Nat) : Int) = m by rw [hm])
  have hn := hide (show ((b.count o : Nat) : Int) = n by rw [hn])
  have q1 : ((m + n : Int) == m + n) = true := by simp
  have q2 : ((s.length : Int) == (a.length : Int) + b.length) = true := by rw [beq_iff_eq]; omega
  have lxx : x.length ≤ 2097150 := by omega
  have lyy : y.length ≤ 2097150 := by omega
  clear hx hy f3
  go_enter Try.func4, Try.ntmps4
  go_wp2_with fail
  (with_reducible refine (examples_any _).mono ?_)
  rintro e w0_ ⟨rfl, hb0_⟩
  have Ga := hide (Ga.out.below hb0_)
  have Gb := hide (Gb.out.below hb0_)
  have hB := bcall hB hb0_
  go_wp2_with fail
  (with_reducible refine (Sum_c _ _ a b _ Ga.out Gb.out Ka.out Kb.out (Nat.le_trans (Nat.add_le_add la lb) (by decide)) s (es.out) _ (rfl)).mono ?_)
  rintro e w1_ ⟨A1_, c1_, rfl, q1_, Gs, hb1_⟩
  have Ga := hide (Ga.out.below hb1_)
  have Gb := hide (Gb.out.below hb1_)
  have hB := bcall hB hb1_
  have Gs := hide Gs
  go_wp2_with fail
  (with_reducible refine (Less_c _ _ s a _ Gs.out Ga.out Ks.out Ka.out (Nat.le_trans ls (by decide)) x (ex.out) true (tx.out) _ (rfl)).mono ?_)
  rintro e w2_ ⟨A2_, c2_, rfl, q2_, Gx, hb2_⟩
  have Ga := hide (Ga.out.below hb2_)
  have Gb := hide (Gb.out.below hb2_)
  have Gs := hide (Gs.out.below hb2_)
  have hB := bcall hB hb2_
  have Gx := hide Gx
  go_wp2_with fail
  (with_reducible refine (Less_c _ _ s b _ Gs.out Gb.out Ks.out Kb.out (Nat.le_trans ls (by decide)) y (ey.out) true (ty.out) _ (rfl)).mono ?_)
  rintro e w3_ ⟨A3_, c3_, rfl, q3_, Gy, hb3_⟩
  have Ga := hide (Ga.out.below hb3_)
  have Gb := hide (Gb.out.below hb3_)
  have Gs := hide (Gs.out.below hb3_)
  have Gx := hide (Gx.out.below hb3_)
  have hB := bcall hB hb3_
  have Gy := hide Gy
  go_wp2_with fail
  (with_reducible refine (Same_c _ _ x b _ Gx.out Gb.out Kx.out Kb.out (Nat.le_trans lxx (by decide)) (Nat.le_trans lb (by decide)) true (fx.out)).mono ?_)
  rintro e w4_ ⟨rfl, hb4_⟩
  have Ga := hide (Ga.out.below hb4_)
  have Gb := hide (Gb.out.below hb4_)
  have Gs := hide (Gs.out.below hb4_)
  have Gx := hide (Gx.out.below hb4_)
  have Gy := hide (Gy.out.below hb4_)
  have hB := bcall hB hb4_
  go_wp2_with fail
  (with_reducible refine (Same_c _ _ y a _ Gy.out Ga.out Ky.out Ka.out (Nat.le_trans lyy (by decide)) (Nat.le_trans la (by decide)) true (fy.out)).mono ?_)
  rintro e w5_ ⟨rfl, hb5_⟩
  have Ga := hide (Ga.out.below hb5_)
  have Gb := hide (Gb.out.below hb5_)
  have Gs := hide (Gs.out.below hb5_)
  have Gx := hide (Gx.out.below hb5_)
  have Gy := hide (Gy.out.below hb5_)
  have hB := bcall hB hb5_
  go_wp2_with fail
  (with_reducible refine (Sum_c _ _ b a _ Gb.out Ga.out Kb.out Ka.out (Nat.le_trans (Nat.add_le_add lb la) (by decide)) t (et.out) _ (rfl)).mono ?_)
  rintro e w6_ ⟨A6_, c6_, rfl, q6_, Gt, hb6_⟩
  have Ga := hide (Ga.out.below hb6_)
  have Gb := hide (Gb.out.below hb6_)
  have Gs := hide (Gs.out.below hb6_)
  have Gx := hide (Gx.out.below hb6_)
  have Gy := hide (Gy.out.below hb6_)
  have hB := bcall hB hb6_
  have Gt := hide Gt
  go_wp2_with fail
  (with_reducible refine (Same_c _ _ s t _ Gs.out Gt.out Ks.out Kt.out (Nat.le_trans ls (by decide)) (Nat.le_trans lt (by decide)) true (f1.out)).mono ?_)
  rintro e w7_ ⟨rfl, hb7_⟩
  have Ga := hide (Ga.out.below hb7_)
  have Gb := hide (Gb.out.below hb7_)
  have Gs := hide (Gs.out.below hb7_)
  have Gx := hide (Gx.out.below hb7_)
  have Gy := hide (Gy.out.below hb7_)
  have Gt := hide (Gt.out.below hb7_)
  have hB := bcall hB hb7_
  go_wp2_with fail
  (with_reducible refine (Count_c _ s o _ Gs.out Ks.out ho (Nat.le_trans ls (by decide)) (m + n) (f2.out)).mono ?_)
  rintro e w8_ ⟨rfl, hb8_⟩
  have Ga := hide (Ga.out.below hb8_)
  have Gb := hide (Gb.out.below hb8_)
  have Gs := hide (Gs.out.below hb8_)
  have Gx := hide (Gx.out.below hb8_)
  have Gy := hide (Gy.out.below hb8_)
  have Gt := hide (Gt.out.below hb8_)
  have hB := bcall hB hb8_
  go_wp2_with fail
  (with_reducible refine (Count_c _ a o _ Ga.out Ka.out ho (Nat.le_trans la (by decide)) m (hm.out)).mono ?_)
  rintro e w9_ ⟨rfl, hb9_⟩
  have Ga := hide (Ga.out.below hb9_)
  have Gb := hide (Gb.out.below hb9_)
  have Gs := hide (Gs.out.below hb9_)
  have Gx := hide (Gx.out.below hb9_)
  have Gy := hide (Gy.out.below hb9_)
  have Gt := hide (Gt.out.below hb9_)
  have hB := bcall hB hb9_
  go_wp2_with fail
  (with_reducible refine (Count_c _ b o _ Gb.out Kb.out ho (Nat.le_trans lb (by decide)) n (hn.out)).mono ?_)
  rintro e w10_ ⟨rfl, hb10_⟩
  have Ga := hide (Ga.out.below hb10_)
  have Gb := hide (Gb.out.below hb10_)
  have Gs := hide (Gs.out.below hb10_)
  have Gx := hide (Gx.out.below hb10_)
  have Gy := hide (Gy.out.below hb10_)
  have Gt := hide (Gt.out.below hb10_)
  have hB := bcall hB hb10_
  go_wp2
  go_ret
  exact ⟨rfl, hB⟩

set_option maxRecDepth 100000 in
theorem lifted (os : Os) (started : os.Started) (H : Type) (enc : TypeId × Value → H) (F : Stop.Interp) :
    ReturnsInHanded {} Try.checked os 4 .any ((Rows.OpenSpec.upto Rows.bagSumsSpec).pre6 enc Try.prog Try.f4 Rows.bagSumsUptoRow.domain false) (((Rows.OpenSpec.upto Rows.bagSumsSpec).at F).post enc Try.prog Try.f4 false true false false) := by
  refine returnsInHanded_of_cond_sized (C := Try.checked) (s := Rows.OpenSpec.upto Rows.bagSumsSpec) (k := Rows.uptoSmall) rfl ownL started (by kernel_rfl) Try.func4
    (OpenSpec.witness (enc := enc) (C := Try.checked) (s := Rows.OpenSpec.upto Rows.bagSumsSpec) (k := Rows.uptoSmall) rfl false ⟨#[], #[.slice none 0 0, .slice none 0 0, .int .i64 0], []⟩ 8 (by kernel_rfl) (by kernel_rfl) (by kernel_rfl)
      (x := ([.nil, .nil, .lit (.int .i64 0)], [], [])) (by kernel_rfl) rfl (by kernel_rfl)) ?_
  intro W base args ds gs before hval hW _ hk0 hsz0 _
  have hW' := hW
  obtain ⟨p, q, hA0, hV, rfl, hfz, hnd⟩ := hW
  have hA : DataW.TrodAll enc Try.prog W 0 (fun _ => true) true Try.f4.params.toList args.toList ds p := hA0
  rw [Try.params4] at hA hval
  obtain ⟨v0, vs0, d0, ds0, p0, q0, hargs, rfl, rfl, h0, r0⟩ := trodAll_cons hA
  obtain ⟨v1, vs1, d1, ds1, p1, q1, rfl, rfl, rfl, h1, r1⟩ := trodAll_cons r0
  obtain ⟨v2, vs2, d2, ds2, p2, q2, rfl, rfl, rfl, h2, r2⟩ := trodAll_cons r1
  obtain ⟨rfl, rfl, rfl⟩ := trodAll_nil r2
  obtain rfl : args = #[v0, v1, v2] := by cases args; simp_all
  obtain ⟨rfl, rfl⟩ := trodVars_none hV
  obtain ⟨l0, hl0, hq0, hd0⟩ := open_bag (hval 0 23 v0 rfl rfl) h0
  obtain ⟨l1, hl1, hq1, hd1⟩ := open_bag (hval 1 23 v1 rfl rfl) h1
  obtain ⟨a2, rfl, rfl, rfl, w2⟩ := open_int Try.underlying3 (hval 2 3 v2 rfl rfl) h2
  have hx2 : -9223372036854775808 ≤ a2 ∧ a2 ≤ 9223372036854775807 := by simpa [Lit.wf, IntKind.min, IntKind.max, IntKind.signed, IntKind.bits] using w2
  have hk : Rows.uptoBulkAll ([d0, d1, .lit (.int .i64 a2)] : List (DataW H)) ≤ 1048576 := of_decide_eq_true hk0
  have e0 : l0.length + 1 ≤ 1048576 := by have h1 := slice_bulk hd0; have h2 := bulk_mem hk 0 rfl; omega
  have e1 : l1.length + 1 ≤ 1048576 := by have h1 := slice_bulk hd1; have h2 := bulk_mem hk 1 rfl; omega
  refine (walk v0 v1 l0 l1 a2 W hx2 hl0 hq0 (by omega) hl1 hq1 (by omega)).mono fun e W' ⟨he, hg⟩ => ?_
  subst he
  exact ⟨_, rfl, law_post laidOutL (by kernel_rfl) rfl Try.underlying4 rfl ⟨rfl, rfl, rfl⟩ hW' hg⟩

/-- THE STATEMENT -/
theorem proved : Rows.BagSumsUptoSaid :=
  OpenClaim.holds_of_cond 4 Try.f4 rfl rfl rfl rfl rfl rfl rfl ⟨rfl, rfl, rfl, rfl, rfl⟩ rfl rfl rfl rfl rfl (by kernel_rfl) Try.func4 (by kernel_rfl)
    (of_decide_eq_true (by kernel_rfl)) (by unfold Func.isWrapper; first | (rw [if_pos (by decide +kernel)]; kernel_rfl) | (rw [if_neg (by decide +kernel)]; exact ⟨rfl, rfl⟩))
    (fun os started H enc _ F => lifted os started H enc F)
end Go.Proofs.Ytggfckednjojgaa.lawBagSums
