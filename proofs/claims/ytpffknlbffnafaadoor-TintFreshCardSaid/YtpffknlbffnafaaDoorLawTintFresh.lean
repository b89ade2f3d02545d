/- TintFresh: of any two sets and a number: what is shaded, and then scanned, is as what is fresh. No condition beside the listed tables, which the card ties to the text. -/
import Derived.Test.YtpffknlbffnafaaDoorTintTied
namespace Go.Proofs.YtpffknlbffnafaaDoor.lawTintFresh
open Go.RowKit Go.WideShapes Go.ChangeShapes Go.ChangeAt Go.Shelf Go.Proofs Go.Proofs.YtpffknlbffnafaaDoor

set_option maxRecDepth 100000 in
set_option maxHeartbeats 8000000 in
theorem walk (n0 n1 : Nat) (l0 : n0 < 18446744073709551616) (l1 : n1 < 18446744073709551616) (a2 : Int) (ha2 : 0 ≤ a2 ∧ a2 ≤ 255) (w : World) (hE : EnvL w) : Calls Tryd.prog 5 #[.int .u64 n0, .int .u64 n1, .int .u8 a2] w fun e w' => e = .returned (.bool true) ∧ Below w.heap.size w w' := by
  obtain ⟨x, hx⟩ : ∃ x, a2.tmod 66 = x := ⟨_, rfl⟩
  have hx0 : 0 ≤ x ∧ x ≤ 65 := by rw [Int.tmod_eq_emod_of_nonneg ha2.1] at hx; omega
  obtain ⟨x0, x1⟩ := hx0
  obtain ⟨z0, z1⟩ := ha2
  have lb : n0 &&& n1 < 18446744073709551616 := and_lt' n1 l0
  have hu := hide (under_and n0 n1 l0)
  obtain ⟨b, hbb⟩ : ∃ b, n0 &&& n1 = b := ⟨_, rfl⟩
  rw [hbb] at lb hu
  have HBB := hide hbb
  clear hbb
  have gT := guardT
  cases hF : tFree n0 b x
  · have hB : Below w.heap.size w w := Below.refl _ _
    have HV := hide hE
    clear hE
    have F1 := hide hF
    have F2 := hide (free_no hF)
    clear hF
    have E1 := hide (show ((n0 : Nat) : Int) = ((shM n0 b x : Nat) : Int) by rw [F2.out.1])
    have E2 := hide (show ((b : Nat) : Int) = ((frB n0 b x : Nat) : Int) by rw [F2.out.2])
    go_enter Tryd.func5, Tryd.ntmps5
    go_wp2_with fail
    (with_reducible refine (examples_any _ HV.out).mono ?_)
    rintro e w1 ⟨rfl, hb1⟩
    replace HV := hide (HV.out.below hb1)
    replace hB := bcall hB hb1
    have hs1 := hb1.size
    clear hb1
    go_wp2_with fail
    (with_reducible refine (some_any n0 n1 l0 l1 _).mono ?_)
    rintro e w2 ⟨rfl, hb2⟩
    replace HV := hide (HV.out.below hb2)
    replace hB := bcall hB hb2
    have hs2 := hb2.size
    clear hb2
    rw [HBB.out]
    obtain ⟨w3, e3, hb3, hs3, t0, t1, -, -⟩ := box1 w2 (.int .u64 n0) (.int .u64 b) 25
    have HE3 := hide e3
    clear e3
    replace HV := hide (HV.out.below hb3)
    replace hB := bcall hB hb3
    clear hb3
    go_wp2_with fail
    rw [HE3.out]
    (with_reducible refine (Shade_c n0 b x _ _ ((n0 : Nat) : Int) false l0 lb (by omega) (by omega) rfl rfl E1.out F1.out.symm _).mono ?_)
    rintro e w4 ⟨rfl, hb4⟩
    replace t0 := keepc hb4 t0
    replace t1 := keepc hb4 t1
    replace HV := hide (HV.out.below hb4)
    replace hB := bcall hB hb4
    have hs4 := hb4.size
    clear hb4
    obtain ⟨w5, e5, hb5, hs5, u0, u1, -, -⟩ := box1 w4 (.int .u64 n0) (.int .u64 b) 25
    have HE5 := hide e5
    clear e5
    have A_t0 : ∀ ob, (w4.alloc ob).cell? ⟨w2.heap.size, 0, none⟩ = some (.int .u64 n0) := fun _ => keepc (bal _ _) t0
    replace t0 := keepc hb5 t0
    have A_t1 : ∀ ob, (w4.alloc ob).cell? ⟨w2.heap.size, 1, none⟩ = some (.int .u64 b) := fun _ => keepc (bal _ _) t1
    replace t1 := keepc hb5 t1
    replace HV := hide (HV.out.below hb5)
    replace hB := bcall hB hb5
    clear hb5
    go_wp2_with fail
    rw [HE5.out]
    clear A_t0 A_t1
    (with_reducible refine (Scan_any n0 b x l0 lb (by omega) (by omega) _).mono ?_)
    rintro e w6 ⟨rfl, hb6⟩
    replace t0 := keepc hb6 t0
    replace t1 := keepc hb6 t1
    replace u0 := keepc hb6 u0
    replace u1 := keepc hb6 u1
    replace HV := hide (HV.out.below hb6)
    replace hB := bcall hB hb6
    have hs6 := hb6.size
    clear hb6
    obtain ⟨w7, e7, hb7, hs7, v0, v1, -, -⟩ := box1 w6 (.int .u64 n0) (.int .u64 (scB n0 b x)) 25
    have HE7 := hide e7
    clear e7
    have A_t0 : ∀ ob, (w6.alloc ob).cell? ⟨w2.heap.size, 0, none⟩ = some (.int .u64 n0) := fun _ => keepc (bal _ _) t0
    replace t0 := keepc hb7 t0
    have A_t1 : ∀ ob, (w6.alloc ob).cell? ⟨w2.heap.size, 1, none⟩ = some (.int .u64 b) := fun _ => keepc (bal _ _) t1
    replace t1 := keepc hb7 t1
    have A_u0 : ∀ ob, (w6.alloc ob).cell? ⟨w4.heap.size, 0, none⟩ = some (.int .u64 n0) := fun _ => keepc (bal _ _) u0
    replace u0 := keepc hb7 u0
    have A_u1 : ∀ ob, (w6.alloc ob).cell? ⟨w4.heap.size, 1, none⟩ = some (.int .u64 b) := fun _ => keepc (bal _ _) u1
    replace u1 := keepc hb7 u1
    replace HV := hide (HV.out.below hb7)
    replace hB := bcall hB hb7
    clear hb7
    go_wp2_with fail
    rw [HE7.out]
    clear A_t0 A_t1 A_u0 A_u1
    (with_reducible refine (Fresh_c n0 b x _ _ ((n0 : Nat) : Int) ((b : Nat) : Int) false l0 lb (by omega) (by omega) rfl rfl E1.out E2.out F1.out.symm _).mono ?_)
    rintro e w8 ⟨rfl, hb8⟩
    replace t0 := keepc hb8 t0
    replace t1 := keepc hb8 t1
    replace u0 := keepc hb8 u0
    replace u1 := keepc hb8 u1
    replace v0 := keepc hb8 v0
    replace v1 := keepc hb8 v1
    replace HV := hide (HV.out.below hb8)
    replace hB := bcall hB hb8
    have hs8 := hb8.size
    clear hb8
    have A_t0 : ∀ ob, (w8.alloc ob).cell? ⟨w2.heap.size, 0, none⟩ = some (.int .u64 n0) := fun _ => keepc (bal _ _) t0
    have A_t1 : ∀ ob, (w8.alloc ob).cell? ⟨w2.heap.size, 1, none⟩ = some (.int .u64 b) := fun _ => keepc (bal _ _) t1
    have A_u0 : ∀ ob, (w8.alloc ob).cell? ⟨w4.heap.size, 0, none⟩ = some (.int .u64 n0) := fun _ => keepc (bal _ _) u0
    have A_u1 : ∀ ob, (w8.alloc ob).cell? ⟨w4.heap.size, 1, none⟩ = some (.int .u64 b) := fun _ => keepc (bal _ _) u1
    have A_v0 : ∀ ob, (w8.alloc ob).cell? ⟨w6.heap.size, 0, none⟩ = some (.int .u64 n0) := fun _ => keepc (bal _ _) v0
    have A_v1 : ∀ ob, (w8.alloc ob).cell? ⟨w6.heap.size, 1, none⟩ = some (.int .u64 (scB n0 b x)) := fun _ => keepc (bal _ _) v1
    go_wp2
    go_ret
    exact ⟨rfl, bcall hB (bal _ _)⟩
  · have hB : Below w.heap.size w w := Below.refl _ _
    have HV := hide hE
    clear hE
    have F1 := hide hF
    have F2 := hide (fresh_two hF)
    have F3 := hide (free_yes hF)
    clear hF
    have E1 := hide (show ((frB n0 b x : Nat) : Int) = ((scB (shM n0 b x) b x : Nat) : Int) by rw [F2.out.2.1])
    have E2 := hide (show true = tGrey (shM n0 b x) b x from F2.out.1.symm)
    have E3 := hide (show (1 : Int) = tOf (shM n0 b x) b x from F2.out.2.2.1.symm)
    have E4 := hide (show (2 : Int) = tOf (shM n0 b x) (frB n0 b x) x from F2.out.2.2.2.symm)
    have ls := shM_lt b x l0
    have lf := frB_lt n0 x lb
    go_enter Tryd.func5, Tryd.ntmps5
    go_wp2_with fail
    (with_reducible refine (examples_any _ HV.out).mono ?_)
    rintro e w1 ⟨rfl, hb1⟩
    replace HV := hide (HV.out.below hb1)
    replace hB := bcall hB hb1
    have hs1 := hb1.size
    clear hb1
    go_wp2_with fail
    (with_reducible refine (some_any n0 n1 l0 l1 _).mono ?_)
    rintro e w2 ⟨rfl, hb2⟩
    replace HV := hide (HV.out.below hb2)
    replace hB := bcall hB hb2
    have hs2 := hb2.size
    clear hb2
    rw [HBB.out]
    obtain ⟨w3, e3, hb3, hs3, t0, t1, -, -⟩ := box1 w2 (.int .u64 n0) (.int .u64 b) 25
    have HE3 := hide e3
    clear e3
    replace HV := hide (HV.out.below hb3)
    replace hB := bcall hB hb3
    clear hb3
    go_wp2_with fail
    rw [HE3.out]
    (with_reducible refine (Shade_c n0 b x _ _ ((shM n0 b x : Nat) : Int) true l0 lb (by omega) (by omega) rfl rfl rfl F1.out.symm _).mono ?_)
    rintro e w4 ⟨rfl, hb4⟩
    replace t0 := keepc hb4 t0
    replace t1 := keepc hb4 t1
    replace HV := hide (HV.out.below hb4)
    replace hB := bcall hB hb4
    have hs4 := hb4.size
    clear hb4
    obtain ⟨w5, e5, hb5, hs5, u0, u1, -, -⟩ := box1 w4 (.int .u64 (shM n0 b x)) (.int .u64 b) 25
    have HE5 := hide e5
    clear e5
    have A_t0 : ∀ ob, (w4.alloc ob).cell? ⟨w2.heap.size, 0, none⟩ = some (.int .u64 n0) := fun _ => keepc (bal _ _) t0
    replace t0 := keepc hb5 t0
    have A_t1 : ∀ ob, (w4.alloc ob).cell? ⟨w2.heap.size, 1, none⟩ = some (.int .u64 b) := fun _ => keepc (bal _ _) t1
    replace t1 := keepc hb5 t1
    replace HV := hide (HV.out.below hb5)
    replace hB := bcall hB hb5
    clear hb5
    go_wp2_with fail
    rw [HE5.out]
    clear A_t0 A_t1
    (with_reducible refine (Scan_c (shM n0 b x) b x _ _ ((frB n0 b x : Nat) : Int) true ls lb (by omega) (by omega) rfl rfl E1.out E2.out _).mono ?_)
    rintro e w6 ⟨rfl, hb6⟩
    replace t0 := keepc hb6 t0
    replace t1 := keepc hb6 t1
    replace u0 := keepc hb6 u0
    replace u1 := keepc hb6 u1
    replace HV := hide (HV.out.below hb6)
    replace hB := bcall hB hb6
    have hs6 := hb6.size
    clear hb6
    obtain ⟨w7, e7, hb7, hs7, v0, v1, -, -⟩ := box1 w6 (.int .u64 (shM n0 b x)) (.int .u64 (frB n0 b x)) 25
    have HE7 := hide e7
    clear e7
    have A_t0 : ∀ ob, (w6.alloc ob).cell? ⟨w2.heap.size, 0, none⟩ = some (.int .u64 n0) := fun _ => keepc (bal _ _) t0
    replace t0 := keepc hb7 t0
    have A_t1 : ∀ ob, (w6.alloc ob).cell? ⟨w2.heap.size, 1, none⟩ = some (.int .u64 b) := fun _ => keepc (bal _ _) t1
    replace t1 := keepc hb7 t1
    have A_u0 : ∀ ob, (w6.alloc ob).cell? ⟨w4.heap.size, 0, none⟩ = some (.int .u64 (shM n0 b x)) := fun _ => keepc (bal _ _) u0
    replace u0 := keepc hb7 u0
    have A_u1 : ∀ ob, (w6.alloc ob).cell? ⟨w4.heap.size, 1, none⟩ = some (.int .u64 b) := fun _ => keepc (bal _ _) u1
    replace u1 := keepc hb7 u1
    replace HV := hide (HV.out.below hb7)
    replace hB := bcall hB hb7
    clear hb7
    go_wp2_with fail
    rw [HE7.out]
    clear A_t0 A_t1 A_u0 A_u1
    (with_reducible refine (Fresh_c n0 b x _ _ ((shM n0 b x : Nat) : Int) ((frB n0 b x : Nat) : Int) true l0 lb (by omega) (by omega) rfl rfl rfl rfl F1.out.symm _).mono ?_)
    rintro e w8 ⟨rfl, hb8⟩
    replace t0 := keepc hb8 t0
    replace t1 := keepc hb8 t1
    replace u0 := keepc hb8 u0
    replace u1 := keepc hb8 u1
    replace v0 := keepc hb8 v0
    replace v1 := keepc hb8 v1
    replace HV := hide (HV.out.below hb8)
    replace hB := bcall hB hb8
    have hs8 := hb8.size
    clear hb8
    obtain ⟨w9, e9, hb9, hs9, f0, f1, -, -⟩ := box1 w8 (.int .u64 (shM n0 b x)) (.int .u64 (frB n0 b x)) 25
    have HE9 := hide e9
    clear e9
    have A_t0 : ∀ ob, (w8.alloc ob).cell? ⟨w2.heap.size, 0, none⟩ = some (.int .u64 n0) := fun _ => keepc (bal _ _) t0
    replace t0 := keepc hb9 t0
    have A_t1 : ∀ ob, (w8.alloc ob).cell? ⟨w2.heap.size, 1, none⟩ = some (.int .u64 b) := fun _ => keepc (bal _ _) t1
    replace t1 := keepc hb9 t1
    have A_u0 : ∀ ob, (w8.alloc ob).cell? ⟨w4.heap.size, 0, none⟩ = some (.int .u64 (shM n0 b x)) := fun _ => keepc (bal _ _) u0
    replace u0 := keepc hb9 u0
    have A_u1 : ∀ ob, (w8.alloc ob).cell? ⟨w4.heap.size, 1, none⟩ = some (.int .u64 b) := fun _ => keepc (bal _ _) u1
    replace u1 := keepc hb9 u1
    have A_v0 : ∀ ob, (w8.alloc ob).cell? ⟨w6.heap.size, 0, none⟩ = some (.int .u64 (shM n0 b x)) := fun _ => keepc (bal _ _) v0
    replace v0 := keepc hb9 v0
    have A_v1 : ∀ ob, (w8.alloc ob).cell? ⟨w6.heap.size, 1, none⟩ = some (.int .u64 (frB n0 b x)) := fun _ => keepc (bal _ _) v1
    replace v1 := keepc hb9 v1
    replace HV := hide (HV.out.below hb9)
    replace hB := bcall hB hb9
    clear hb9
    go_wp2_with fail
    rw [HE9.out]
    clear A_t0 A_t1 A_u0 A_u1 A_v0 A_v1
    (with_reducible refine (Of_c (shM n0 b x) b x _ _ 1 ls lb (by omega) (by omega) rfl rfl E3.out _).mono ?_)
    rintro e w10 ⟨rfl, hb10⟩
    replace t0 := keepc hb10 t0
    replace t1 := keepc hb10 t1
    replace u0 := keepc hb10 u0
    replace u1 := keepc hb10 u1
    replace v0 := keepc hb10 v0
    replace v1 := keepc hb10 v1
    replace f0 := keepc hb10 f0
    replace f1 := keepc hb10 f1
    replace HV := hide (HV.out.below hb10)
    replace hB := bcall hB hb10
    have hs10 := hb10.size
    clear hb10
    go_wp2_with fail
    (with_reducible refine (Of_c (shM n0 b x) (frB n0 b x) x _ _ 2 ls lf (by omega) (by omega) rfl rfl E4.out _).mono ?_)
    rintro e w11 ⟨rfl, hb11⟩
    replace t0 := keepc hb11 t0
    replace t1 := keepc hb11 t1
    replace u0 := keepc hb11 u0
    replace u1 := keepc hb11 u1
    replace v0 := keepc hb11 v0
    replace v1 := keepc hb11 v1
    replace f0 := keepc hb11 f0
    replace f1 := keepc hb11 f1
    replace HV := hide (HV.out.below hb11)
    replace hB := bcall hB hb11
    have hs11 := hb11.size
    clear hb11
    go_wp2
    go_ret
    exact ⟨rfl, hB⟩

set_option maxRecDepth 100000 in
theorem lifted (os : Os) (started : os.Started) (H : Type) (enc : TypeId × Value → H) :
    ReturnsInHanded {} Tryd.checked os 5 .any (fun w args => (Rows.tintFreshSpec.pre enc Tryd.prog Tryd.f5 Rows.tintFreshRow.domain false w args ∧ laidMetH Tryd.prog Rows.tintFreshRow.laid w) ∧ sizedMet enc Tryd.prog Tryd.f5 (OpenSpec.ofChange Rows.tintFreshSpec) false w args) (Rows.tintFreshSpec.post enc Tryd.prog Tryd.f5 false true false false) := by
  refine handed_and_shaped (C := Tryd.checked) (X := fun w _ => laidMetH Tryd.prog Rows.tintFreshRow.laid w) (fun _ _ _ hh h => h.of_heap hh) ownL started (by kernel_rfl) Tryd.func5
    (ChangeSpec.witness_shaped (enc := enc) (C := Tryd.checked) (os := os) (X := fun w _ => laidMetH Tryd.prog Rows.tintFreshRow.laid w) false (World.laidAll Tryd.prog os Rows.tintFreshRow.laid) #[.int .u64 0, .int .u64 0, .int .u8 0] 8 (World.laidAll_os _ _ _)
      (World.shaped_of_ZipB (by kernel_rfl) (by kernel_rfl)) (by kernel_rfl) (by kernel_rfl) (by kernel_rfl)
      (by rw [MakeChecks.laidMetH_plain _ _ _ (by kernel_rfl)]; exact laidMet_laidAll _ (by kernel_rfl) (by kernel_rfl))) ?_
  intro W base args ds gs before hval0 hW hsz0 hL hsh
  have hval : ∀ (j : Nat) t v, Tryd.f5.params[j]? = some t → args[j]? = some v → Value.okWide Tryd.prog W .any base t v := hval0
  have hW' := hW
  obtain ⟨p, q, hA0, hV, rfl, hfz, hnd⟩ := hW
  have hA : DataW.TrodAll enc Tryd.prog W 0 (fun _ => true) true Tryd.f5.params.toList args.toList ds p := hA0
  rw [Tryd.params5] at hA hval
  obtain ⟨v0, vs0, d0, ds0, p0, q0, hargs, rfl, rfl, h0, r0⟩ := trodAll_cons hA
  obtain ⟨v1, vs1, d1, ds1, p1, q1, rfl, rfl, rfl, h1, r1⟩ := trodAll_cons r0
  obtain ⟨v2, vs2, d2, ds2, p2, q2, rfl, rfl, rfl, h2, r2⟩ := trodAll_cons r1
  obtain ⟨rfl, rfl, rfl⟩ := trodAll_nil r2
  obtain rfl : args = #[v0, v1, v2] := by cases args; simp_all
  obtain ⟨rfl, rfl⟩ := trodVars_none hV
  obtain ⟨a0, rfl, rfl, rfl, w0⟩ := open_int Tryd.underlying23 (hval 0 23 v0 rfl rfl) h0
  have hx0 : 0 ≤ a0 ∧ a0 ≤ 18446744073709551615 := by simpa [Lit.wf, IntKind.min, IntKind.max, IntKind.signed, IntKind.bits] using w0
  obtain ⟨n0, rfl⟩ : ∃ n : Nat, a0 = n := ⟨a0.toNat, by omega⟩
  obtain ⟨a1, rfl, rfl, rfl, w1⟩ := open_int Tryd.underlying23 (hval 1 23 v1 rfl rfl) h1
  have hx1 : 0 ≤ a1 ∧ a1 ≤ 18446744073709551615 := by simpa [Lit.wf, IntKind.min, IntKind.max, IntKind.signed, IntKind.bits] using w1
  obtain ⟨n1, rfl⟩ : ∃ n : Nat, a1 = n := ⟨a1.toNat, by omega⟩
  obtain ⟨a2, rfl, rfl, rfl, w2⟩ := open_int Tryd.underlying5 (hval 2 5 v2 rfl rfl) h2
  have hx2 : 0 ≤ a2 ∧ a2 ≤ 255 := by simpa [Lit.wf, IntKind.min, IntKind.max, IntKind.signed, IntKind.bits] using w2
  have hE := envL_of_laid hL
  refine (walk n0 n1 (by omega) (by omega) a2 hx2 W hE).mono fun e W' ⟨he, hg⟩ => ?_
  subst he
  exact ⟨_, rfl, law_post laidOutL (by kernel_rfl) rfl Tryd.underlying4 rfl ⟨rfl, rfl, rfl⟩ hW' hg⟩
theorem row_holds : Rows.TintFreshSaid :=
  OpenClaim.holds_of_wide 5 Tryd.f5 rfl rfl rfl rfl rfl rfl rfl ⟨rfl, rfl, rfl, rfl, rfl⟩ rfl rfl rfl rfl rfl (by kernel_rfl) Tryd.func5 (by kernel_rfl)
    (of_decide_eq_true (by kernel_rfl)) (by unfold Func.isWrapper; first | (rw [if_pos (by decide +kernel)]; kernel_rfl) | (rw [if_neg (by decide +kernel)]; exact ⟨rfl, rfl⟩))
    (fun os started H enc _ => lifted os started H enc)

/-- THE STATEMENT -/
theorem proved : Rows.TintFreshCardSaid :=
  Claim7.holds_tied_plain_at .later [] Rows.tintFreshCard.laidKinds true Rows.tintFreshCard.stood.harness Rows.tintFreshCard.stood.looks
    row_holds (fun _ h => by cases h) (by kernel_rfl) (fun _ h => by cases h) tintFresh_row_tie rfl ⟨rfl, rfl⟩ (by kernel_rfl) rfl
    (fun f fn hf hfn => by
      obtain rfl : f = 5 := Option.some.inj ((show Tryd.prog.funcNamed Rows.tintFreshRow.func = some 5 by kernel_rfl).symm.trans hf) |>.symm
      obtain rfl : fn = Tryd.f5 := (Option.some.inj (Tryd.func5.symm.trans hfn)).symm
      exact ⟨by kernel_rfl, fun j t ht => by
        rw [Tryd.params5] at ht
        have hm : t ∈ [23, 23, 5] := by simpa using Array.mem_of_getElem? ht
        have hall : ([23, 23, 5].all fun u => !Tryd.prog.wantsStandIn u) = true := by kernel_rfl
        exact (show Tryd.prog.wantsStandIn t = false by simpa using List.all_eq_true.1 hall t hm)⟩)
    (by kernel_rfl)
end Go.Proofs.YtpffknlbffnafaaDoor.lawTintFresh
