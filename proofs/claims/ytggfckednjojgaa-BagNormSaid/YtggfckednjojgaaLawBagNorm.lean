/- BagNorm: for any bag, a number: a bag, normed, rises, and is the same; in another order it is the same, and so are all that is told of it. No condition. -/
import Derived.Test.YtggfckednjojgaaBagOpen
namespace Go.Proofs.Ytggfckednjojgaa.lawBagNorm
open Go.RowKit Go.WideShapes Go.ChangeShapes Go.ChangeAt Go.Proofs Go.Proofs.Ytggfckednjojgaa

set_option maxRecDepth 100000 in
set_option maxHeartbeats 8000000 in
theorem walk (va : Value) (a : List Int) (o : Int) (w : World) (ho : Kw o) (h0 : Ints w va a) (k0 : AllK a) (b0 : a.length * 8 ≤ 140737488351232) : Calls Try.prog 6 #[va, .int .i64 o] w fun e w' => e = .returned (.bool true) ∧ Below w.heap.size w w' := by
  obtain ⟨i0, hi, hz0, hz1, hz2⟩ := info_parts infoI
  have hB : Below w.heap.size w w := Below.refl _ _
  obtain ⟨Aa, ca, rfl, pa, ra⟩ := sl_form h0
  have Ga := hide h0
  have Ka := hide k0
  have la : a.length ≤ 17592186043904 := by omega
  clear h0 k0 b0
  have f1 := same_norm a
  have f2 := norm_rises a
  have f3 := norm_len a
  have f4 := norm_count a o
  have Kn := norm_allK Ka.out
  have ln : (normB a).length ≤ 17592186043904 := by rw [norm_len]; exact la
  obtain ⟨n, en⟩ : ∃ n, normB a = n := ⟨_, rfl⟩
  rw [en] at Kn ln
  rw [en] at f1 f2 f3 f4
  have Kn := hide Kn
  have en := hide en
  have f5 := hide (show sameB a.reverse a = true from same_iff.2 fun o => List.count_reverse)
  have Kt := hide (show AllK a.reverse from fun x hx => Ka.out x (List.mem_reverse.1 hx))
  have lt : a.reverse.length ≤ 17592186043904 := by rw [List.length_reverse]; exact la
  obtain ⟨k, hk⟩ : ∃ k : Int, ((a.count o : Nat) : Int) = k := ⟨_, rfl⟩
  have f4 := hide (show ((n.count o : Nat) : Int) = k by rw [f4]; exact hk)
  have hk := hide hk
  obtain ⟨X, hX⟩ : ∃ X : Int, ((onceV a : Nat) : Int) = X := ⟨_, rfl⟩
  obtain ⟨p, hp⟩ : ∃ p, onceB a = p := ⟨_, rfl⟩
  have hX2 := hide (show ((onceV a.reverse : Nat) : Int) = X by rw [(once_perm (List.reverse_perm a)).2]; exact hX)
  have hp2 := hide (show onceB a.reverse = p by rw [(once_perm (List.reverse_perm a)).1]; exact hp)
  have hX := hide hX
  have hp := hide hp
  have f1 := hide f1
  have f2 := hide f2
  have q1 : ((n.length : Int) == (a.length : Int)) = true := by rw [beq_iff_eq, f3]
  have q2 : (k == k) = true := by simp
  have q3 : (X == X) = true := by simp
  have q4 : (p == p) = true := by simp
  clear f3
  go_enter Try.func6, Try.ntmps6
  go_wp2_with fail
  (with_reducible refine (examples_any _).mono ?_)
  rintro e w0_ ⟨rfl, hb0_⟩
  have Ga := hide (Ga.out.below hb0_)
  have hB := bcall hB hb0_
  go_wp2_with fail
  (with_reducible refine (Norm_c _ a _ Ga.out Ka.out (Nat.le_trans la (by decide)) n (en.out) _ (rfl)).mono ?_)
  rintro e w1_ ⟨A1_, c1_, rfl, q1_, Gn, hb1_⟩
  have Ga := hide (Ga.out.below hb1_)
  have hB := bcall hB hb1_
  have Gn := hide Gn
  have hw := hB.size
  go_wp2
  go_loopw [7, 8] (fun t i wr => ∃ (x : Nat) (At : Option Addr) (ct : Nat), x ≤ a.length ∧ i = .int .i64 x ∧ t = .slice At x ct ∧ (x ≤ ct ∧ ct ≤ 2 ^ 63 - 1) ∧ Hid (Ints wr (.slice At x ct) (a.take x).reverse) ∧ Below w1_.heap.size w1_ wr) (fun _ i _ => a.length - (Go.RowKit.intOf i).toNat)
  case atStart => exact ⟨0, none, 0, Nat.zero_le _, rfl, rfl, ⟨Nat.le_refl _, by decide⟩, hide (by simpa using Sl.nil_), Below.refl _ _⟩
  case round =>
    obtain ⟨x, At, ct, hx, rfl, rfl, ⟨pt, rt⟩, HT, hbw⟩ := hrel
    have hbw0 := hbw
    have Ga := hide (Ga.out.below hbw)
    have Gn := hide (Gn.out.below hbw)
    have hB := bcall hB hbw
    by_cases hlt : x < a.length
    · obtain ⟨b1, o1, rfl, -, d0⟩ := ints_at Ga.out hlt
      have hrv : (a.take (x + 1)).reverse = a[x] :: (a.take x).reverse := by rw [List.take_succ_eq_append_getElem hlt]; simp
      have hrl : (a.take x).reverse.length = x := by rw [List.length_reverse, List.length_take]; omega
      generalize a[x] = y at *
      generalize (a.take x).reverse = T at *
      have HRV := hide hrv
      clear hrv
      go_wp2_with (at_builtin; refine wpList_append_sl _ rfl _ _ 23 rfl wr.heap.size 3 i0 (.int .i64 0) 1 8 Try.underlying23 hi hz0 hz1 hz2 rfl (by decide) _ 1 [.int .i64 y] rfl (own_new wr wr.heap.size [.int .i64 y] 3 1 1 (Nat.le_refl _) rfl (by decide)) _ T rfl (HT.out.alloc _) ic_len (fun _ u hu => by simp [ic] at hu; subst hu; rfl) (by unfold maxLen; omega) (by omega) (by simp) ?_; intro v2 wa hown hba)
      have hown : wa.ownsRow wr.heap.size 3 1 v2 (y :: T).length ((y :: T).flatMap ic) := by simpa [ic, Nat.add_comm] using hown
      have hyl : (y :: T).length = x + 1 := by simp [hrl]
      obtain ⟨A2, c2, rfl, q2_, HO, -⟩ := own_c (w := wr) rfl hyl hown ((bal wr _).trans hba)
      have HO := hide HO
      clear hown
      go_roundw
      case rel => exact ⟨x + 1, A2, c2, by omega, by go_num, rfl, q2_, by rw [HRV.out]; exact HO, hbw0.trans (((bal wr _).trans hba).mono hbw0.size)⟩
      case measure => simp [Go.RowKit.intOf]; omega
    · obtain rfl : x = a.length := by omega
      have hT : (a.take a.length).reverse = a.reverse := by rw [List.take_length]
      rw [hT] at HT
      have Gt := HT
      clear hT HT
      go_wp2
      go_loopw [9] (fun i ws => ∃ x : Nat, x ≤ n.length ∧ i = .int .i64 ((x : Int) + 1) ∧ Below wr.heap.size wr ws) (fun i _ => n.length + 1 - (Go.RowKit.intOf i).toNat)
      case atStart => exact ⟨0, Nat.zero_le _, rfl, Below.refl _ _⟩
      case round =>
        obtain ⟨x, hx, rfl, hbv⟩ := hrel
        have hbv0 := hbv
        have Ga := hide (Ga.out.below hbv)
        have Gn := hide (Gn.out.below hbv)
        have Gt := hide (Gt.out.below hbv)
        have hB := bcall hB hbv
        by_cases hlt : x + 1 < n.length
        · obtain ⟨b1, o1, rfl, d0, d1⟩ := ints_pair Gn.out hlt
          have hle := rises_at f2.out hlt
          generalize n[x] = y at *
          generalize n[x + 1] = z at *
          have q5 : decide (y > z) = false := decide_eq_false (by omega)
          have q6 : decide (z < y) = false := decide_eq_false (by omega)
          go_wp2
          go_quiet (fail)
          go_wp2
          go_roundw
          case rel => exact ⟨x + 1, by omega, by go_num, bdrewN hbv0 _⟩
          case measure => simp [Go.RowKit.intOf]; omega
        · clear f2
          go_wp2_with fail
          (with_reducible refine (Once_c _ a _ Ga.out Ka.out X (hX.out) p (hp.out)).mono ?_)
          rintro e w2_ ⟨rfl, hb2_⟩
          have Ga := hide (Ga.out.below hb2_)
          have Gn := hide (Gn.out.below hb2_)
          have Gt := hide (Gt.out.below hb2_)
          have hB := bcall hB hb2_
          go_wp2_with fail
          (with_reducible refine (Once_c _ a.reverse _ Gt.out Kt.out X (hX2.out) p (hp2.out)).mono ?_)
          rintro e w3_ ⟨rfl, hb3_⟩
          have Ga := hide (Ga.out.below hb3_)
          have Gn := hide (Gn.out.below hb3_)
          have Gt := hide (Gt.out.below hb3_)
          have hB := bcall hB hb3_
          go_wp2_with fail
          (with_reducible refine (Same_c _ _ n a _ Gn.out Ga.out Kn.out Ka.out (Nat.le_trans ln (by decide)) (Nat.le_trans la (by decide)) true (f1.out)).mono ?_)
          rintro e w4_ ⟨rfl, hb4_⟩
          have Ga := hide (Ga.out.below hb4_)
          have Gn := hide (Gn.out.below hb4_)
          have Gt := hide (Gt.out.below hb4_)
          have hB := bcall hB hb4_
          go_wp2_with fail
          (with_reducible refine (Same_c _ _ a.reverse a _ Gt.out Ga.out Kt.out Ka.out (Nat.le_trans lt (by decide)) (Nat.le_trans la (by decide)) true (f5.out)).mono ?_)
          rintro e w5_ ⟨rfl, hb5_⟩
          have Ga := hide (Ga.out.below hb5_)
          have Gn := hide (Gn.out.below hb5_)
          have Gt := hide (Gt.out.below hb5_)
          have hB := bcall hB hb5_
          go_wp2_with fail
          (with_reducible refine (Count_c _ n o _ Gn.out Kn.out ho (Nat.le_trans ln (by decide)) k (f4.out)).mono ?_)
          rintro e w6_ ⟨rfl, hb6_⟩
          have Ga := hide (Ga.out.below hb6_)
          have Gn := hide (Gn.out.below hb6_)
          have Gt := hide (Gt.out.below hb6_)
          have hB := bcall hB hb6_
          go_wp2_with fail
          (with_reducible refine (Count_c _ a o _ Ga.out Ka.out ho (Nat.le_trans la (by decide)) k (hk.out)).mono ?_)
          rintro e w7_ ⟨rfl, hb7_⟩
          have Ga := hide (Ga.out.below hb7_)
          have Gn := hide (Gn.out.below hb7_)
          have Gt := hide (Gt.out.below hb7_)
          have hB := bcall hB hb7_
          go_wp2
          go_ret
          exact ⟨rfl, hB⟩

set_option maxRecDepth 100000 in
theorem lifted (os : Os) (started : os.Started) (H : Type) (enc : TypeId × Value → H) :
    ReturnsInHanded {} Try.checked os 6 .any (Rows.bagNormSpec.pre6 enc Try.prog Try.f6 Rows.bagNormRow.domain false) (Rows.bagNormSpec.post enc Try.prog Try.f6 false true false false) := by
  refine returnsInHanded_of_change_sized (C := Try.checked) ownL started (by kernel_rfl) Try.func6
    (ChangeSpec.witness6 (enc := enc) (C := Try.checked) false ⟨#[], #[.slice none 0 0, .int .i64 0], []⟩ 8 (by kernel_rfl) (by kernel_rfl) (by kernel_rfl) (by kernel_rfl)) ?_
  intro W base args ds gs before hval hW _ hsz0 _
  have hW' := hW
  obtain ⟨p, q, hA0, hV, rfl, hfz, hnd⟩ := hW
  have hA : DataW.TrodAll enc Try.prog W 0 (fun _ => true) true Try.f6.params.toList args.toList ds p := hA0
  rw [Try.params6] at hA hval
  obtain ⟨v0, vs0, d0, ds0, p0, q0, hargs, rfl, rfl, h0, r0⟩ := trodAll_cons hA
  obtain ⟨v1, vs1, d1, ds1, p1, q1, rfl, rfl, rfl, h1, r1⟩ := trodAll_cons r0
  obtain ⟨rfl, rfl, rfl⟩ := trodAll_nil r1
  obtain rfl : args = #[v0, v1] := by cases args; simp_all
  obtain ⟨rfl, rfl⟩ := trodVars_none hV
  obtain ⟨l0, hl0, hq0, hd0⟩ := open_bag (hval 0 23 v0 rfl rfl) h0
  obtain ⟨a1, rfl, rfl, rfl, w1⟩ := open_int Try.underlying3 (hval 1 3 v1 rfl rfl) h1
  have hx1 : -9223372036854775808 ≤ a1 ∧ a1 ≤ 9223372036854775807 := by simpa [Lit.wf, IntKind.min, IntKind.max, IntKind.signed, IntKind.bits] using w1
  have hsz : (DataW.weightsEach Try.prog [23, 3] ([d0, .lit (.int .i64 a1)] : List (DataW H))).all (· ≤ reachBytes) = true := hsz0
  have e0 : l0.length * 8 ≤ 140737488351232 := slice_reach hsz 0 rfl rfl Try.underlying23 (by kernel_rfl) hd0
  refine (walk v0 l0 a1 W hx1 hl0 hq0 (by omega)).mono fun e W' ⟨he, hg⟩ => ?_
  subst he
  exact ⟨_, rfl, law_post laidOutL (by kernel_rfl) rfl Try.underlying4 rfl ⟨rfl, rfl, rfl⟩ hW' hg⟩

/-- THE STATEMENT -/
theorem proved : Rows.BagNormSaid :=
  OpenClaim.holds_of_wide 6 Try.f6 rfl rfl rfl rfl rfl rfl rfl ⟨rfl, rfl, rfl, rfl, rfl⟩ rfl rfl rfl rfl rfl (by kernel_rfl) Try.func6 (by kernel_rfl)
    (of_decide_eq_true (by kernel_rfl)) (by unfold Func.isWrapper; first | (rw [if_pos (by decide +kernel)]; kernel_rfl) | (rw [if_neg (by decide +kernel)]; exact ⟨rfl, rfl⟩))
    (fun os started H enc _ => lifted os started H enc)
end Go.Proofs.Ytggfckednjojgaa.lawBagNorm
