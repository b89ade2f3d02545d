/- BagSame: for any three bags, a number: to be the same is one: of itself, either way, by what is between; one more is not the same. No condition. -/
import Derived.Test.YtggfckednjojgaaBagOpen
namespace Go.Proofs.Ytggfckednjojgaa.lawBagSame
open Go.RowKit Go.WideShapes Go.ChangeShapes Go.ChangeAt Go.Proofs Go.Proofs.Ytggfckednjojgaa

set_option maxRecDepth 100000 in
set_option maxHeartbeats 8000000 in
theorem walk_no (va vb vc : Value) (a b c : List Int) (o : Int) (w : World) (ho : Kw o) (h0 : Ints w va a) (k0 : AllK a) (b0 : a.length * 8 ≤ 140737488351232) (h1 : Ints w vb b) (k1 : AllK b) (b1 : b.length * 8 ≤ 140737488351232) (h2 : Ints w vc c) (k2 : AllK c) (b2 : c.length * 8 ≤ 140737488351232) (hs : sameB a b = false) : Calls Try.prog 8 #[va, vb, vc, .int .i64 o] w fun e w' => e = .returned (.bool true) ∧ Below w.heap.size w w' := by
  have hs2 := hide (show sameB b a = false by rw [same_comm, hs])
  have haa := hide (same_refl a)
  have had := same_add a o
  have hs := hide hs
  have hB : Below w.heap.size w w := Below.refl _ _
  obtain ⟨Aa, ca, rfl, pa, ra⟩ := sl_form h0
  have Ga := hide h0
  have Ka := hide k0
  have la : a.length ≤ 17592186043904 := by omega
  obtain ⟨Ab, cb, rfl, pb, rb⟩ := sl_form h1
  have Gb := hide h1
  have Kb := hide k1
  have lb : b.length ≤ 17592186043904 := by omega
  obtain ⟨Ac, cc, rfl, pc, rc⟩ := sl_form h2
  have Gc := hide h2
  have Kc := hide k2
  have lc : c.length ≤ 17592186043904 := by omega
  clear h0 k0 b0 h1 k1 b1 h2 k2 b2
  have Kd := add_allK (n := 1) Ka.out ho
  have ld : (addB a o 1).length ≤ 17592186044416 := by have := add_len_le a o 1; have e : (1 : Int).toNat = 1 := rfl; omega
  obtain ⟨d, ed⟩ : ∃ d, addB a o 1 = d := ⟨_, rfl⟩
  rw [ed] at Kd ld
  rw [ed] at had
  have had := hide had
  have Kd := hide Kd
  have ed := hide ed
  go_enter Try.func8, Try.ntmps8
  go_wp2_with fail
  (with_reducible refine (examples_any _).mono ?_)
  rintro e w0_ ⟨rfl, hb0_⟩
  have Ga := hide (Ga.out.below hb0_)
  have Gb := hide (Gb.out.below hb0_)
  have Gc := hide (Gc.out.below hb0_)
  have hB := bcall hB hb0_
  go_wp2_with fail
  (with_reducible refine (Same_c _ _ a b _ Ga.out Gb.out Ka.out Kb.out (Nat.le_trans la (by decide)) (Nat.le_trans lb (by decide)) false (hs.out)).mono ?_)
  rintro e w1_ ⟨rfl, hb1_⟩
  have Ga := hide (Ga.out.below hb1_)
  have Gb := hide (Gb.out.below hb1_)
  have Gc := hide (Gc.out.below hb1_)
  have hB := bcall hB hb1_
  go_wp2_with fail
  (with_reducible refine (Same_c _ _ a a _ Ga.out Ga.out Ka.out Ka.out (Nat.le_trans la (by decide)) (Nat.le_trans la (by decide)) true (haa.out)).mono ?_)
  rintro e w2_ ⟨rfl, hb2_⟩
  have Ga := hide (Ga.out.below hb2_)
  have Gb := hide (Gb.out.below hb2_)
  have Gc := hide (Gc.out.below hb2_)
  have hB := bcall hB hb2_
  go_wp2_with fail
  (with_reducible refine (Same_c _ _ b a _ Gb.out Ga.out Kb.out Ka.out (Nat.le_trans lb (by decide)) (Nat.le_trans la (by decide)) false (hs2.out)).mono ?_)
  rintro e w3_ ⟨rfl, hb3_⟩
  have Ga := hide (Ga.out.below hb3_)
  have Gb := hide (Gb.out.below hb3_)
  have Gc := hide (Gc.out.below hb3_)
  have hB := bcall hB hb3_
  go_wp2_with fail
  (with_reducible refine (Add_c _ a o 1 _ Ga.out Ka.out ho (by decide) (Nat.lt_of_le_of_lt la (by decide)) d (ed.out) ld _ (rfl)).mono ?_)
  rintro e w4_ ⟨A4_, c4_, rfl, q4_, Gd, hb4_⟩
  have Ga := hide (Ga.out.below hb4_)
  have Gb := hide (Gb.out.below hb4_)
  have Gc := hide (Gc.out.below hb4_)
  have hB := bcall hB hb4_
  have Gd := hide Gd
  go_wp2_with fail
  (with_reducible refine (Same_c _ _ a d _ Ga.out Gd.out Ka.out Kd.out (Nat.le_trans la (by decide)) ld false (had.out)).mono ?_)
  rintro e w5_ ⟨rfl, hb5_⟩
  have Ga := hide (Ga.out.below hb5_)
  have Gb := hide (Gb.out.below hb5_)
  have Gc := hide (Gc.out.below hb5_)
  have Gd := hide (Gd.out.below hb5_)
  have hB := bcall hB hb5_
  go_wp2
  go_ret
  exact ⟨rfl, hB⟩
set_option maxRecDepth 100000 in
set_option maxHeartbeats 8000000 in
theorem walk_one (va vb vc : Value) (a b c : List Int) (o : Int) (w : World) (ho : Kw o) (h0 : Ints w va a) (k0 : AllK a) (b0 : a.length * 8 ≤ 140737488351232) (h1 : Ints w vb b) (k1 : AllK b) (b1 : b.length * 8 ≤ 140737488351232) (h2 : Ints w vc c) (k2 : AllK c) (b2 : c.length * 8 ≤ 140737488351232) (hs : sameB a b = true) (ht : sameB b c = false) : Calls Try.prog 8 #[va, vb, vc, .int .i64 o] w fun e w' => e = .returned (.bool true) ∧ Below w.heap.size w w' := by
  have hs2 := hide (show sameB b a = true by rw [same_comm, hs])
  have haa := hide (same_refl a)
  have had := same_add a o
  have hlen := hide (same_len hs)
  have hcnt := (same_iff.1 hs o).symm
  obtain ⟨k, hk⟩ : ∃ k : Int, ((a.count o : Nat) : Int) = k := ⟨_, rfl⟩
  have hk2 := hide (show ((b.count o : Nat) : Int) = k by rw [hcnt]; exact hk)
  have hk := hide hk
  have q1 : ((a.length : Int) == (b.length : Int)) = true := by rw [beq_iff_eq, hlen.out]
  have q2 : (k == k) = true := by simp
  clear hcnt
  have ht := hide ht
  have hs := hide hs
  have hB : Below w.heap.size w w := Below.refl _ _
  obtain ⟨Aa, ca, rfl, pa, ra⟩ := sl_form h0
  have Ga := hide h0
  have Ka := hide k0
  have la : a.length ≤ 17592186043904 := by omega
  obtain ⟨Ab, cb, rfl, pb, rb⟩ := sl_form h1
  have Gb := hide h1
  have Kb := hide k1
  have lb : b.length ≤ 17592186043904 := by omega
  obtain ⟨Ac, cc, rfl, pc, rc⟩ := sl_form h2
  have Gc := hide h2
  have Kc := hide k2
  have lc : c.length ≤ 17592186043904 := by omega
  clear h0 k0 b0 h1 k1 b1 h2 k2 b2
  have Kd := add_allK (n := 1) Ka.out ho
  have ld : (addB a o 1).length ≤ 17592186044416 := by have := add_len_le a o 1; have e : (1 : Int).toNat = 1 := rfl; omega
  obtain ⟨d, ed⟩ : ∃ d, addB a o 1 = d := ⟨_, rfl⟩
  rw [ed] at Kd ld
  rw [ed] at had
  have had := hide had
  have Kd := hide Kd
  have ed := hide ed
  go_enter Try.func8, Try.ntmps8
  go_wp2_with fail
  (with_reducible refine (examples_any _).mono ?_)
  rintro e w0_ ⟨rfl, hb0_⟩
  have Ga := hide (Ga.out.below hb0_)
  have Gb := hide (Gb.out.below hb0_)
  have Gc := hide (Gc.out.below hb0_)
  have hB := bcall hB hb0_
  go_wp2_with fail
  (with_reducible refine (Same_c _ _ a b _ Ga.out Gb.out Ka.out Kb.out (Nat.le_trans la (by decide)) (Nat.le_trans lb (by decide)) true (hs.out)).mono ?_)
  rintro e w1_ ⟨rfl, hb1_⟩
  have Ga := hide (Ga.out.below hb1_)
  have Gb := hide (Gb.out.below hb1_)
  have Gc := hide (Gc.out.below hb1_)
  have hB := bcall hB hb1_
  go_wp2_with fail
  (with_reducible refine (Same_c _ _ a a _ Ga.out Ga.out Ka.out Ka.out (Nat.le_trans la (by decide)) (Nat.le_trans la (by decide)) true (haa.out)).mono ?_)
  rintro e w2_ ⟨rfl, hb2_⟩
  have Ga := hide (Ga.out.below hb2_)
  have Gb := hide (Gb.out.below hb2_)
  have Gc := hide (Gc.out.below hb2_)
  have hB := bcall hB hb2_
  go_wp2_with fail
  (with_reducible refine (Same_c _ _ b a _ Gb.out Ga.out Kb.out Ka.out (Nat.le_trans lb (by decide)) (Nat.le_trans la (by decide)) true (hs2.out)).mono ?_)
  rintro e w3_ ⟨rfl, hb3_⟩
  have Ga := hide (Ga.out.below hb3_)
  have Gb := hide (Gb.out.below hb3_)
  have Gc := hide (Gc.out.below hb3_)
  have hB := bcall hB hb3_
  go_wp2_with fail
  (with_reducible refine (Same_c _ _ b c _ Gb.out Gc.out Kb.out Kc.out (Nat.le_trans lb (by decide)) (Nat.le_trans lc (by decide)) false (ht.out)).mono ?_)
  rintro e w4_ ⟨rfl, hb4_⟩
  have Ga := hide (Ga.out.below hb4_)
  have Gb := hide (Gb.out.below hb4_)
  have Gc := hide (Gc.out.below hb4_)
  have hB := bcall hB hb4_
  go_wp2_with fail
  (with_reducible refine (Add_c _ a o 1 _ Ga.out Ka.out ho (by decide) (Nat.lt_of_le_of_lt la (by decide)) d (ed.out) ld _ (rfl)).mono ?_)
  rintro e w5_ ⟨A5_, c5_, rfl, q5_, Gd, hb5_⟩
  have Ga := hide (Ga.out.below hb5_)
  have Gb := hide (Gb.out.below hb5_)
  have Gc := hide (Gc.out.below hb5_)
  have hB := bcall hB hb5_
  have Gd := hide Gd
  go_wp2_with fail
  (with_reducible refine (Same_c _ _ a d _ Ga.out Gd.out Ka.out Kd.out (Nat.le_trans la (by decide)) ld false (had.out)).mono ?_)
  rintro e w6_ ⟨rfl, hb6_⟩
  have Ga := hide (Ga.out.below hb6_)
  have Gb := hide (Gb.out.below hb6_)
  have Gc := hide (Gc.out.below hb6_)
  have Gd := hide (Gd.out.below hb6_)
  have hB := bcall hB hb6_
  go_wp2_with fail
  (with_reducible refine (Count_c _ a o _ Ga.out Ka.out ho (Nat.le_trans la (by decide)) k (hk.out)).mono ?_)
  rintro e w7_ ⟨rfl, hb7_⟩
  have Ga := hide (Ga.out.below hb7_)
  have Gb := hide (Gb.out.below hb7_)
  have Gc := hide (Gc.out.below hb7_)
  have Gd := hide (Gd.out.below hb7_)
  have hB := bcall hB hb7_
  go_wp2_with fail
  (with_reducible refine (Count_c _ b o _ Gb.out Kb.out ho (Nat.le_trans lb (by decide)) k (hk2.out)).mono ?_)
  rintro e w8_ ⟨rfl, hb8_⟩
  have Ga := hide (Ga.out.below hb8_)
  have Gb := hide (Gb.out.below hb8_)
  have Gc := hide (Gc.out.below hb8_)
  have Gd := hide (Gd.out.below hb8_)
  have hB := bcall hB hb8_
  go_wp2
  go_ret
  exact ⟨rfl, hB⟩
set_option maxRecDepth 100000 in
set_option maxHeartbeats 8000000 in
theorem walk_two (va vb vc : Value) (a b c : List Int) (o : Int) (w : World) (ho : Kw o) (h0 : Ints w va a) (k0 : AllK a) (b0 : a.length * 8 ≤ 140737488351232) (h1 : Ints w vb b) (k1 : AllK b) (b1 : b.length * 8 ≤ 140737488351232) (h2 : Ints w vc c) (k2 : AllK c) (b2 : c.length * 8 ≤ 140737488351232) (hs : sameB a b = true) (ht : sameB b c = true) : Calls Try.prog 8 #[va, vb, vc, .int .i64 o] w fun e w' => e = .returned (.bool true) ∧ Below w.heap.size w w' := by
  have hs2 := hide (show sameB b a = true by rw [same_comm, hs])
  have haa := hide (same_refl a)
  have had := same_add a o
  have hlen := hide (same_len hs)
  have hcnt := (same_iff.1 hs o).symm
  obtain ⟨k, hk⟩ : ∃ k : Int, ((a.count o : Nat) : Int) = k := ⟨_, rfl⟩
  have hk2 := hide (show ((b.count o : Nat) : Int) = k by rw [hcnt]; exact hk)
  have hk := hide hk
  have q1 : ((a.length : Int) == (b.length : Int)) = true := by rw [beq_iff_eq, hlen.out]
  have q2 : (k == k) = true := by simp
  clear hcnt
  have hac := hide (same_trans hs ht)
  have ht := hide ht
  have hs := hide hs
  have hB : Below w.heap.size w w := Below.refl _ _
  obtain ⟨Aa, ca, rfl, pa, ra⟩ := sl_form h0
  have Ga := hide h0
  have Ka := hide k0
  have la : a.length ≤ 17592186043904 := by omega
  obtain ⟨Ab, cb, rfl, pb, rb⟩ := sl_form h1
  have Gb := hide h1
  have Kb := hide k1
  have lb : b.length ≤ 17592186043904 := by omega
  obtain ⟨Ac, cc, rfl, pc, rc⟩ := sl_form h2
  have Gc := hide h2
  have Kc := hide k2
  have lc : c.length ≤ 17592186043904 := by omega
  clear h0 k0 b0 h1 k1 b1 h2 k2 b2
  have Kd := add_allK (n := 1) Ka.out ho
  have ld : (addB a o 1).length ≤ 17592186044416 := by have := add_len_le a o 1; have e : (1 : Int).toNat = 1 := rfl; omega
  obtain ⟨d, ed⟩ : ∃ d, addB a o 1 = d := ⟨_, rfl⟩
  rw [ed] at Kd ld
  rw [ed] at had
  have had := hide had
  have Kd := hide Kd
  have ed := hide ed
  go_enter Try.func8, Try.ntmps8
  go_wp2_with fail
  (with_reducible refine (examples_any _).mono ?_)
  rintro e w0_ ⟨rfl, hb0_⟩
  have Ga := hide (Ga.out.below hb0_)
  have Gb := hide (Gb.out.below hb0_)
  have Gc := hide (Gc.out.below hb0_)
  have hB := bcall hB hb0_
  go_wp2_with fail
  (with_reducible refine (Same_c _ _ a b _ Ga.out Gb.out Ka.out Kb.out (Nat.le_trans la (by decide)) (Nat.le_trans lb (by decide)) true (hs.out)).mono ?_)
  rintro e w1_ ⟨rfl, hb1_⟩
  have Ga := hide (Ga.out.below hb1_)
  have Gb := hide (Gb.out.below hb1_)
  have Gc := hide (Gc.out.below hb1_)
  have hB := bcall hB hb1_
  go_wp2_with fail
  (with_reducible refine (Same_c _ _ a a _ Ga.out Ga.out Ka.out Ka.out (Nat.le_trans la (by decide)) (Nat.le_trans la (by decide)) true (haa.out)).mono ?_)
  rintro e w2_ ⟨rfl, hb2_⟩
  have Ga := hide (Ga.out.below hb2_)
  have Gb := hide (Gb.out.below hb2_)
  have Gc := hide (Gc.out.below hb2_)
  have hB := bcall hB hb2_
  go_wp2_with fail
  (with_reducible refine (Same_c _ _ b a _ Gb.out Ga.out Kb.out Ka.out (Nat.le_trans lb (by decide)) (Nat.le_trans la (by decide)) true (hs2.out)).mono ?_)
  rintro e w3_ ⟨rfl, hb3_⟩
  have Ga := hide (Ga.out.below hb3_)
  have Gb := hide (Gb.out.below hb3_)
  have Gc := hide (Gc.out.below hb3_)
  have hB := bcall hB hb3_
  go_wp2_with fail
  (with_reducible refine (Same_c _ _ b c _ Gb.out Gc.out Kb.out Kc.out (Nat.le_trans lb (by decide)) (Nat.le_trans lc (by decide)) true (ht.out)).mono ?_)
  rintro e w4_ ⟨rfl, hb4_⟩
  have Ga := hide (Ga.out.below hb4_)
  have Gb := hide (Gb.out.below hb4_)
  have Gc := hide (Gc.out.below hb4_)
  have hB := bcall hB hb4_
  go_wp2_with fail
  (with_reducible refine (Same_c _ _ a c _ Ga.out Gc.out Ka.out Kc.out (Nat.le_trans la (by decide)) (Nat.le_trans lc (by decide)) true (hac.out)).mono ?_)
  rintro e w5_ ⟨rfl, hb5_⟩
  have Ga := hide (Ga.out.below hb5_)
  have Gb := hide (Gb.out.below hb5_)
  have Gc := hide (Gc.out.below hb5_)
  have hB := bcall hB hb5_
  go_wp2_with fail
  (with_reducible refine (Add_c _ a o 1 _ Ga.out Ka.out ho (by decide) (Nat.lt_of_le_of_lt la (by decide)) d (ed.out) ld _ (rfl)).mono ?_)
  rintro e w6_ ⟨A6_, c6_, rfl, q6_, Gd, hb6_⟩
  have Ga := hide (Ga.out.below hb6_)
  have Gb := hide (Gb.out.below hb6_)
  have Gc := hide (Gc.out.below hb6_)
  have hB := bcall hB hb6_
  have Gd := hide Gd
  go_wp2_with fail
  (with_reducible refine (Same_c _ _ a d _ Ga.out Gd.out Ka.out Kd.out (Nat.le_trans la (by decide)) ld false (had.out)).mono ?_)
  rintro e w7_ ⟨rfl, hb7_⟩
  have Ga := hide (Ga.out.below hb7_)
  have Gb := hide (Gb.out.below hb7_)
  have Gc := hide (Gc.out.below hb7_)
  have Gd := hide (Gd.out.below hb7_)
  have hB := bcall hB hb7_
  go_wp2_with fail
  (with_reducible refine (Count_c _ a o _ Ga.out Ka.out ho (Nat.le_trans la (by decide)) k (hk.out)).mono ?_)
  rintro e w8_ ⟨rfl, hb8_⟩
  have Ga := hide (Ga.out.below hb8_)
  have Gb := hide (Gb.out.below hb8_)
  have Gc := hide (Gc.out.below hb8_)
  have Gd := hide (Gd.out.below hb8_)
  have hB := bcall hB hb8_
  go_wp2_with fail
  (with_reducible refine (Count_c _ b o _ Gb.out Kb.out ho (Nat.le_trans lb (by decide)) k (hk2.out)).mono ?_)
  rintro e w9_ ⟨rfl, hb9_⟩
  have Ga := hide (Ga.out.below hb9_)
  have Gb := hide (Gb.out.below hb9_)
  have Gc := hide (Gc.out.below hb9_)
  have Gd := hide (Gd.out.below hb9_)
  have hB := bcall hB hb9_
  go_wp2
  go_ret
  exact ⟨rfl, hB⟩
theorem walk (va vb vc : Value) (a b c : List Int) (o : Int) (w : World) (ho : Kw o) (h0 : Ints w va a) (k0 : AllK a) (b0 : a.length * 8 ≤ 140737488351232) (h1 : Ints w vb b) (k1 : AllK b) (b1 : b.length * 8 ≤ 140737488351232) (h2 : Ints w vc c) (k2 : AllK c) (b2 : c.length * 8 ≤ 140737488351232) : Calls Try.prog 8 #[va, vb, vc, .int .i64 o] w fun e w' => e = .returned (.bool true) ∧ Below w.heap.size w w' := by
  cases hs : sameB a b
  · exact walk_no va vb vc a b c o w ho h0 k0 b0 h1 k1 b1 h2 k2 b2 hs
  · cases ht : sameB b c
    · exact walk_one va vb vc a b c o w ho h0 k0 b0 h1 k1 b1 h2 k2 b2 hs ht
    · exact walk_two va vb vc a b c o w ho h0 k0 b0 h1 k1 b1 h2 k2 b2 hs ht

set_option maxRecDepth 100000 in
theorem lifted (os : Os) (started : os.Started) (H : Type) (enc : TypeId × Value → H) :
    ReturnsInHanded {} Try.checked os 8 .any (Rows.bagSameSpec.pre6 enc Try.prog Try.f8 Rows.bagSameRow.domain false) (Rows.bagSameSpec.post enc Try.prog Try.f8 false true false false) := by
  refine returnsInHanded_of_change_sized (C := Try.checked) ownL started (by kernel_rfl) Try.func8
    (ChangeSpec.witness6 (enc := enc) (C := Try.checked) false ⟨#[], #[.slice none 0 0, .slice none 0 0, .slice none 0 0, .int .i64 0], []⟩ 8 (by kernel_rfl) (by kernel_rfl) (by kernel_rfl) (by kernel_rfl)) ?_
  intro W base args ds gs before hval hW _ hsz0 _
  have hW' := hW
  obtain ⟨p, q, hA0, hV, rfl, hfz, hnd⟩ := hW
  have hA : DataW.TrodAll enc Try.prog W 0 (fun _ => true) true Try.f8.params.toList args.toList ds p := hA0
  rw [Try.params8] at hA hval
  obtain ⟨v0, vs0, d0, ds0, p0, q0, hargs, rfl, rfl, h0, r0⟩ := trodAll_cons hA
  obtain ⟨v1, vs1, d1, ds1, p1, q1, rfl, rfl, rfl, h1, r1⟩ := trodAll_cons r0
  obtain ⟨v2, vs2, d2, ds2, p2, q2, rfl, rfl, rfl, h2, r2⟩ := trodAll_cons r1
  obtain ⟨v3, vs3, d3, ds3, p3, q3, rfl, rfl, rfl, h3, r3⟩ := trodAll_cons r2
  obtain ⟨rfl, rfl, rfl⟩ := trodAll_nil r3
  obtain rfl : args = #[v0, v1, v2, v3] := by cases args; simp_all
  obtain ⟨rfl, rfl⟩ := trodVars_none hV
  obtain ⟨l0, hl0, hq0, hd0⟩ := open_bag (hval 0 23 v0 rfl rfl) h0
  obtain ⟨l1, hl1, hq1, hd1⟩ := open_bag (hval 1 23 v1 rfl rfl) h1
  obtain ⟨l2, hl2, hq2, hd2⟩ := open_bag (hval 2 23 v2 rfl rfl) h2
  obtain ⟨a3, rfl, rfl, rfl, w3⟩ := open_int Try.underlying3 (hval 3 3 v3 rfl rfl) h3
  have hx3 : -9223372036854775808 ≤ a3 ∧ a3 ≤ 9223372036854775807 := by simpa [Lit.wf, IntKind.min, IntKind.max, IntKind.signed, IntKind.bits] using w3
  have hsz : (DataW.weightsEach Try.prog [23, 23, 23, 3] ([d0, d1, d2, .lit (.int .i64 a3)] : List (DataW H))).all (· ≤ reachBytes) = true := hsz0
  have e0 : l0.length * 8 ≤ 140737488351232 := slice_reach hsz 0 rfl rfl Try.underlying23 (by kernel_rfl) hd0
  have e1 : l1.length * 8 ≤ 140737488351232 := slice_reach hsz 1 rfl rfl Try.underlying23 (by kernel_rfl) hd1
  have e2 : l2.length * 8 ≤ 140737488351232 := slice_reach hsz 2 rfl rfl Try.underlying23 (by kernel_rfl) hd2
  refine (walk v0 v1 v2 l0 l1 l2 a3 W hx3 hl0 hq0 (by omega) hl1 hq1 (by omega) hl2 hq2 (by omega)).mono fun e W' ⟨he, hg⟩ => ?_
  subst he
  exact ⟨_, rfl, law_post laidOutL (by kernel_rfl) rfl Try.underlying4 rfl ⟨rfl, rfl, rfl⟩ hW' hg⟩

/-- THE STATEMENT -/
theorem proved : Rows.BagSameSaid :=
  OpenClaim.holds_of_wide 8 Try.f8 rfl rfl rfl rfl rfl rfl rfl ⟨rfl, rfl, rfl, rfl, rfl⟩ rfl rfl rfl rfl rfl (by kernel_rfl) Try.func8 (by kernel_rfl)
    (of_decide_eq_true (by kernel_rfl)) (by unfold Func.isWrapper; first | (rw [if_pos (by decide +kernel)]; kernel_rfl) | (rw [if_neg (by decide +kernel)]; exact ⟨rfl, rfl⟩))
    (fun os started H enc _ => lifted os started H enc)
end Go.Proofs.Ytggfckednjojgaa.lawBagSame
