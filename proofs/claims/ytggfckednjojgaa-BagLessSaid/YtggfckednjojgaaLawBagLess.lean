/- BagLess: for any two bags: what is left, and what was taken out, are what was there; what has too few of one has nothing left. No condition. -/
import Derived.Test.YtggfckednjojgaaBagOpen
namespace Go.Proofs.Ytggfckednjojgaa.lawBagLess
open Go.RowKit Go.WideShapes Go.ChangeShapes Go.ChangeAt Go.Proofs Go.Proofs.Ytggfckednjojgaa

set_option maxRecDepth 100000 in
set_option maxHeartbeats 8000000 in
theorem walk_yes (va vb : Value) (a b : List Int) (w : World) (h0 : Ints w va a) (k0 : AllK a) (b0 : a.length * 8 ≤ 140737488351232) (h1 : Ints w vb b) (k1 : AllK b) (b1 : b.length * 8 ≤ 140737488351232) (he : enough a b = true) : Calls Try.prog 5 #[va, vb] w fun e w' => e = .returned (.bool true) ∧ Below w.heap.size w w' := by
  have hB : Below w.heap.size w w := Below.refl _ _
  obtain ⟨Aa, ca, rfl, pa, ra⟩ := sl_form h0
  have Ga := hide h0
  have Ka := hide k0
  have la : a.length ≤ 17592186043904 := by omega
  obtain ⟨Ab, cb, rfl, pb, rb⟩ := sl_form h1
  have Gb := hide h1
  have Kb := hide k1
  have lb : b.length ≤ 17592186043904 := by omega
  clear h0 k0 b0 h1 k1 b1
  obtain ⟨x, hx, fx, fl⟩ := less_yes he
  obtain ⟨Kx, lx⟩ := less_allK Ka.out hx
  have Kx := hide Kx
  have Ks := sum_allK Kx.out Kb.out
  have ls : (sumB x b).length ≤ 17592186043904 := by rw [sum_len]; omega
  obtain ⟨s, es⟩ : ∃ s, sumB x b = s := ⟨_, rfl⟩
  rw [es] at Ks ls
  rw [es] at fx
  have Ks := hide Ks
  have es := hide es
  have fx := hide fx
  have lxb : x.length + b.length ≤ 17592186044416 := by omega
  have ex := hide (show lessL a b = x by unfold lessL; rw [hx]; rfl)
  have tx := hide (show (lessB a b).isSome = true by rw [hx]; rfl)
  clear hx fl
  have HE := hide he
  clear he
  go_enter Try.func5, Try.ntmps5
  go_wp2_with fail
  (with_reducible refine (examples_any _).mono ?_)
  rintro e w0_ ⟨rfl, hb0_⟩
  have Ga := hide (Ga.out.below hb0_)
  have Gb := hide (Gb.out.below hb0_)
  have hB := bcall hB hb0_
  go_wp2_with fail
  (with_reducible refine (Less_c _ _ a b _ Ga.out Gb.out Ka.out Kb.out (Nat.le_trans la (by decide)) x (ex.out) true (tx.out) _ (rfl)).mono ?_)
  rintro e w1_ ⟨A1_, c1_, rfl, q1_, Gx, hb1_⟩
  have Ga := hide (Ga.out.below hb1_)
  have Gb := hide (Gb.out.below hb1_)
  have hB := bcall hB hb1_
  have Gx := hide Gx
  have hw := hB.size
  go_wp2
  go_loopw [8, 9] (fun e i wr => ∃ k : Nat, k ≤ b.length ∧ i = .int .i64 k ∧ e = .bool (pre a b k) ∧ Below w1_.heap.size w1_ wr) (fun _ i _ => b.length - (Go.RowKit.intOf i).toNat)
  case atStart => exact ⟨0, Nat.zero_le _, rfl, by rw [pre_zero], Below.refl _ _⟩
  case round =>
    obtain ⟨k, hk, rfl, rfl, hbw⟩ := hrel
    have hbw0 := hbw
    have Ga := hide (Ga.out.below hbw)
    have Gb := hide (Gb.out.below hbw)
    have Gx := hide (Gx.out.below hbw)
    have hB := bcall hB hbw
    by_cases hlt : k < b.length
    · obtain ⟨b1, o1, rfl, -, d0⟩ := ints_at Gb.out hlt
      have hy := Kb.out _ (List.getElem_mem hlt)
      have hps := pre_succ a b hlt
      obtain ⟨y, ey⟩ : ∃ y, b[k] = y := ⟨_, rfl⟩
      rw [ey] at d0 hy hps
      have EY := hide ey
      clear ey
      obtain ⟨m, hm⟩ : ∃ m : Int, ((a.count y : Nat) : Int) = m := ⟨_, rfl⟩
      obtain ⟨n, hn⟩ : ∃ n : Int, ((b.count y : Nat) : Int) = n := ⟨_, rfl⟩
      have hps : pre a b (k + 1) = (pre a b k && decide (n ≤ m)) := by rw [hps, ← hm, ← hn]; simp
      have HM := hide hm
      have HN := hide hn
      clear hm hn
      generalize pre a b k = t at hps
      generalize hp1 : pre a b (k + 1) = t1 at hps
      have HP := hide hp1
      clear hp1
      cases t
      · rw [Bool.false_and] at hps
        subst hps
        go_wp2
        go_quiet (fail)
        go_wp2
        go_roundw
        case rel => exact ⟨k + 1, by omega, by go_num, by rw [HP.out], bdrewN hbw0 _⟩
        case measure => simp [Go.RowKit.intOf]; omega
      · rw [Bool.true_and] at hps
        by_cases hge : n ≤ m
        · have q : decide (n ≤ m) = true := decide_eq_true hge
          rw [q] at hps
          subst hps
          have d0q : ∀ p : BW wr, p.w.cell? ⟨b1, o1 + k, none⟩ = some (.int .i64 y) := fun p => keepc p.b d0
          have Gaq := hide (fun p : BW wr => Ga.out.below p.b)
          have Gbq := hide (fun p : BW wr => Gb.out.below p.b)
          have Gxq := hide (fun p : BW wr => Gx.out.below p.b)
          go_wp2
          refine wp_region_below (by kernel_rfl) (by kernel_rfl) ?_
          repeat (go_big_quiet_step (first | (with_reducible refine below_of (Count_c _ a y _ (Gaq.out _) Ka.out hy (Nat.le_trans la (by decide)) m HM.out)) | (with_reducible refine below_of (Count_c _ b y _ (Gbq.out _) Kb.out hy (Nat.le_trans lb (by decide)) n HN.out))))
          refine wpQuiet_nil ?_
          intro _ hw'
          obtain ⟨⟨wq_, bq_⟩, hw''⟩ := hw'
          subst hw''
          clear d0q
          clear Gaq Gbq Gxq
          have hB := bcall hB bq_
          go_wp2
          go_roundw
          case rel => exact ⟨k + 1, by omega, by go_num, by rw [HP.out], hbw0.trans (bq_.mono hbw0.size)⟩
          case measure => simp [Go.RowKit.intOf]; omega
        · have q : decide (n ≤ m) = false := decide_eq_false hge
          rw [q] at hps
          subst hps
          have d0q : ∀ p : BW wr, p.w.cell? ⟨b1, o1 + k, none⟩ = some (.int .i64 y) := fun p => keepc p.b d0
          have Gaq := hide (fun p : BW wr => Ga.out.below p.b)
          have Gbq := hide (fun p : BW wr => Gb.out.below p.b)
          have Gxq := hide (fun p : BW wr => Gx.out.below p.b)
          go_wp2
          refine wp_region_below (by kernel_rfl) (by kernel_rfl) ?_
          repeat (go_big_quiet_step (first | (with_reducible refine below_of (Count_c _ a y _ (Gaq.out _) Ka.out hy (Nat.le_trans la (by decide)) m HM.out)) | (with_reducible refine below_of (Count_c _ b y _ (Gbq.out _) Kb.out hy (Nat.le_trans lb (by decide)) n HN.out))))
          refine wpQuiet_nil ?_
          intro _ hw'
          obtain ⟨⟨wq_, bq_⟩, hw''⟩ := hw'
          subst hw''
          clear d0q
          clear Gaq Gbq Gxq
          have hB := bcall hB bq_
          go_wp2
          go_roundw
          case rel => exact ⟨k + 1, by omega, by go_num, by rw [HP.out], hbw0.trans (bq_.mono hbw0.size)⟩
          case measure => simp [Go.RowKit.intOf]; omega
    · obtain rfl : k = b.length := by omega
      rw [pre_end, HE.out] at *
      go_wp2_with fail
      (with_reducible refine (Sum_c _ _ x b _ Gx.out Gb.out Kx.out Kb.out lxb s (es.out) _ (rfl)).mono ?_)
      rintro e w2_ ⟨A2_, c2_, rfl, q2_, Gs, hb2_⟩
      have Ga := hide (Ga.out.below hb2_)
      have Gb := hide (Gb.out.below hb2_)
      have Gx := hide (Gx.out.below hb2_)
      have hB := bcall hB hb2_
      have Gs := hide Gs
      go_wp2_with fail
      (with_reducible refine (Same_c _ _ s a _ Gs.out Ga.out Ks.out Ka.out (Nat.le_trans ls (by decide)) (Nat.le_trans la (by decide)) true (fx.out)).mono ?_)
      rintro e w3_ ⟨rfl, hb3_⟩
      have Ga := hide (Ga.out.below hb3_)
      have Gb := hide (Gb.out.below hb3_)
      have Gx := hide (Gx.out.below hb3_)
      have Gs := hide (Gs.out.below hb3_)
      have hB := bcall hB hb3_
      go_wp2
      go_ret
      exact ⟨rfl, hB⟩
set_option maxRecDepth 100000 in
set_option maxHeartbeats 8000000 in
theorem walk_no (va vb : Value) (a b : List Int) (w : World) (h0 : Ints w va a) (k0 : AllK a) (b0 : a.length * 8 ≤ 140737488351232) (h1 : Ints w vb b) (k1 : AllK b) (b1 : b.length * 8 ≤ 140737488351232) (he : enough a b = false) : Calls Try.prog 5 #[va, vb] w fun e w' => e = .returned (.bool true) ∧ Below w.heap.size w w' := by
  have hB : Below w.heap.size w w := Below.refl _ _
  obtain ⟨Aa, ca, rfl, pa, ra⟩ := sl_form h0
  have Ga := hide h0
  have Ka := hide k0
  have la : a.length ≤ 17592186043904 := by omega
  obtain ⟨Ab, cb, rfl, pb, rb⟩ := sl_form h1
  have Gb := hide h1
  have Kb := hide k1
  have lb : b.length ≤ 17592186043904 := by omega
  clear h0 k0 b0 h1 k1 b1
  have hx := less_no he
  have ex := hide (show lessL a b = [] by unfold lessL; rw [hx]; rfl)
  have tx := hide (show (lessB a b).isSome = false by rw [hx]; rfl)
  clear hx
  have HE := hide he
  clear he
  go_enter Try.func5, Try.ntmps5
  go_wp2_with fail
  (with_reducible refine (examples_any _).mono ?_)
  rintro e w0_ ⟨rfl, hb0_⟩
  have Ga := hide (Ga.out.below hb0_)
  have Gb := hide (Gb.out.below hb0_)
  have hB := bcall hB hb0_
  go_wp2_with fail
  (with_reducible refine (Less_c _ _ a b _ Ga.out Gb.out Ka.out Kb.out (Nat.le_trans la (by decide)) [] (ex.out) false (tx.out) 0 (rfl)).mono ?_)
  rintro e w1_ ⟨A1_, c1_, rfl, q1_, Gx, hb1_⟩
  have Ga := hide (Ga.out.below hb1_)
  have Gb := hide (Gb.out.below hb1_)
  have hB := bcall hB hb1_
  have Gx := hide Gx
  have hw := hB.size
  go_wp2
  go_loopw [8, 9] (fun e i wr => ∃ k : Nat, k ≤ b.length ∧ i = .int .i64 k ∧ e = .bool (pre a b k) ∧ Below w1_.heap.size w1_ wr) (fun _ i _ => b.length - (Go.RowKit.intOf i).toNat)
  case atStart => exact ⟨0, Nat.zero_le _, rfl, by rw [pre_zero], Below.refl _ _⟩
  case round =>
    obtain ⟨k, hk, rfl, rfl, hbw⟩ := hrel
    have hbw0 := hbw
    have Ga := hide (Ga.out.below hbw)
    have Gb := hide (Gb.out.below hbw)
    have Gx := hide (Gx.out.below hbw)
    have hB := bcall hB hbw
    by_cases hlt : k < b.length
    · obtain ⟨b1, o1, rfl, -, d0⟩ := ints_at Gb.out hlt
      have hy := Kb.out _ (List.getElem_mem hlt)
      have hps := pre_succ a b hlt
      obtain ⟨y, ey⟩ : ∃ y, b[k] = y := ⟨_, rfl⟩
      rw [ey] at d0 hy hps
      have EY := hide ey
      clear ey
      obtain ⟨m, hm⟩ : ∃ m : Int, ((a.count y : Nat) : Int) = m := ⟨_, rfl⟩
      obtain ⟨n, hn⟩ : ∃ n : Int, ((b.count y : Nat) : Int) = n := ⟨_, rfl⟩
      have hps : pre a b (k + 1) = (pre a b k && decide (n ≤ m)) := by rw [hps, ← hm, ← hn]; simp
      have HM := hide hm
      have HN := hide hn
      clear hm hn
      generalize pre a b k = t at hps
      generalize hp1 : pre a b (k + 1) = t1 at hps
      have HP := hide hp1
      clear hp1
      cases t
      · rw [Bool.false_and] at hps
        subst hps
        go_wp2
        go_quiet (fail)
        go_wp2
        go_roundw
        case rel => exact ⟨k + 1, by omega, by go_num, by rw [HP.out], bdrewN hbw0 _⟩
        case measure => simp [Go.RowKit.intOf]; omega
      · rw [Bool.true_and] at hps
        by_cases hge : n ≤ m
        · have q : decide (n ≤ m) = true := decide_eq_true hge
          rw [q] at hps
          subst hps
          have d0q : ∀ p : BW wr, p.w.cell? ⟨b1, o1 + k, none⟩ = some (.int .i64 y) := fun p => keepc p.b d0
          have Gaq := hide (fun p : BW wr => Ga.out.below p.b)
          have Gbq := hide (fun p : BW wr => Gb.out.below p.b)
          have Gxq := hide (fun p : BW wr => Gx.out.below p.b)
          go_wp2
          refine wp_region_below (by kernel_rfl) (by kernel_rfl) ?_
          repeat (go_big_quiet_step (first | (with_reducible refine below_of (Count_c _ a y _ (Gaq.out _) Ka.out hy (Nat.le_trans la (by decide)) m HM.out)) | (with_reducible refine below_of (Count_c _ b y _ (Gbq.out _) Kb.out hy (Nat.le_trans lb (by decide)) n HN.out))))
          refine wpQuiet_nil ?_
          intro _ hw'
          obtain ⟨⟨wq_, bq_⟩, hw''⟩ := hw'
          subst hw''
          clear d0q
          clear Gaq Gbq Gxq
          have hB := bcall hB bq_
          go_wp2
          go_roundw
          case rel => exact ⟨k + 1, by omega, by go_num, by rw [HP.out], hbw0.trans (bq_.mono hbw0.size)⟩
          case measure => simp [Go.RowKit.intOf]; omega
        · have q : decide (n ≤ m) = false := decide_eq_false hge
          rw [q] at hps
          subst hps
          have d0q : ∀ p : BW wr, p.w.cell? ⟨b1, o1 + k, none⟩ = some (.int .i64 y) := fun p => keepc p.b d0
          have Gaq := hide (fun p : BW wr => Ga.out.below p.b)
          have Gbq := hide (fun p : BW wr => Gb.out.below p.b)
          have Gxq := hide (fun p : BW wr => Gx.out.below p.b)
          go_wp2
          refine wp_region_below (by kernel_rfl) (by kernel_rfl) ?_
          repeat (go_big_quiet_step (first | (with_reducible refine below_of (Count_c _ a y _ (Gaq.out _) Ka.out hy (Nat.le_trans la (by decide)) m HM.out)) | (with_reducible refine below_of (Count_c _ b y _ (Gbq.out _) Kb.out hy (Nat.le_trans lb (by decide)) n HN.out))))
          refine wpQuiet_nil ?_
          intro _ hw'
          obtain ⟨⟨wq_, bq_⟩, hw''⟩ := hw'
          subst hw''
          clear d0q
          clear Gaq Gbq Gxq
          have hB := bcall hB bq_
          go_wp2
          go_roundw
          case rel => exact ⟨k + 1, by omega, by go_num, by rw [HP.out], hbw0.trans (bq_.mono hbw0.size)⟩
          case measure => simp [Go.RowKit.intOf]; omega
    · obtain rfl : k = b.length := by omega
      rw [pre_end, HE.out] at *
      go_wp2
      go_ret
      exact ⟨rfl, hB⟩
theorem walk (va vb : Value) (a b : List Int) (w : World) (h0 : Ints w va a) (k0 : AllK a) (b0 : a.length * 8 ≤ 140737488351232) (h1 : Ints w vb b) (k1 : AllK b) (b1 : b.length * 8 ≤ 140737488351232) : Calls Try.prog 5 #[va, vb] w fun e w' => e = .returned (.bool true) ∧ Below w.heap.size w w' := by
  cases he : enough a b
  · exact walk_no va vb a b w h0 k0 b0 h1 k1 b1 he
  · exact walk_yes va vb a b w h0 k0 b0 h1 k1 b1 he

set_option maxRecDepth 100000 in
theorem lifted (os : Os) (started : os.Started) (H : Type) (enc : TypeId × Value → H) :
    ReturnsInHanded {} Try.checked os 5 .any (Rows.bagLessSpec.pre6 enc Try.prog Try.f5 Rows.bagLessRow.domain false) (Rows.bagLessSpec.post enc Try.prog Try.f5 false true false false) := by
  refine returnsInHanded_of_change_sized (C := Try.checked) ownL started (by kernel_rfl) Try.func5
    (ChangeSpec.witness6 (enc := enc) (C := Try.checked) false ⟨#[], #[.slice none 0 0, .slice none 0 0], []⟩ 8 (by kernel_rfl) (by kernel_rfl) (by kernel_rfl) (by kernel_rfl)) ?_
  intro W base args ds gs before hval hW _ hsz0 _
  have hW' := hW
  obtain ⟨p, q, hA0, hV, rfl, hfz, hnd⟩ := hW
  have hA : DataW.TrodAll enc Try.prog W 0 (fun _ => true) true Try.f5.params.toList args.toList ds p := hA0
  rw [Try.params5] at hA hval
  obtain ⟨v0, vs0, d0, ds0, p0, q0, hargs, rfl, rfl, h0, r0⟩ := trodAll_cons hA
  obtain ⟨v1, vs1, d1, ds1, p1, q1, rfl, rfl, rfl, h1, r1⟩ := trodAll_cons r0
  obtain ⟨rfl, rfl, rfl⟩ := trodAll_nil r1
  obtain rfl : args = #[v0, v1] := by cases args; simp_all
  obtain ⟨rfl, rfl⟩ := trodVars_none hV
  obtain ⟨l0, hl0, hq0, hd0⟩ := open_bag (hval 0 23 v0 rfl rfl) h0
  obtain ⟨l1, hl1, hq1, hd1⟩ := open_bag (hval 1 23 v1 rfl rfl) h1
  have hsz : (DataW.weightsEach Try.prog [23, 23] ([d0, d1] : List (DataW H))).all (· ≤ reachBytes) = true := hsz0
  have e0 : l0.length * 8 ≤ 140737488351232 := slice_reach hsz 0 rfl rfl Try.underlying23 (by kernel_rfl) hd0
  have e1 : l1.length * 8 ≤ 140737488351232 := slice_reach hsz 1 rfl rfl Try.underlying23 (by kernel_rfl) hd1
  refine (walk v0 v1 l0 l1 W hl0 hq0 (by omega) hl1 hq1 (by omega)).mono fun e W' ⟨he, hg⟩ => ?_
  subst he
  exact ⟨_, rfl, law_post laidOutL (by kernel_rfl) rfl Try.underlying4 rfl ⟨rfl, rfl, rfl⟩ hW' hg⟩

/-- THE STATEMENT -/
theorem proved : Rows.BagLessSaid :=
  OpenClaim.holds_of_wide 5 Try.f5 rfl rfl rfl rfl rfl rfl rfl ⟨rfl, rfl, rfl, rfl, rfl⟩ rfl rfl rfl rfl rfl (by kernel_rfl) Try.func5 (by kernel_rfl)
    (of_decide_eq_true (by kernel_rfl)) (by unfold Func.isWrapper; first | (rw [if_pos (by decide +kernel)]; kernel_rfl) | (rw [if_neg (by decide +kernel)]; exact ⟨rfl, rfl⟩))
    (fun os started H enc _ => lifted os started H enc)
end Go.Proofs.Ytggfckednjojgaa.lawBagLess
