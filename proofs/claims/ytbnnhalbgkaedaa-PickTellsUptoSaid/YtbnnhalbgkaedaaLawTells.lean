/- PickTells: what the document's own answer says of any picks and any text, pick says. Up to a size (the document's own Parse makes 16 bytes a letter). -/
import Derived.Test.YtbnnhalbgkaedaaRef5
import Derived.Test.YtbnnhalbgkaedaaRef6
import Derived.Test.YtbnnhalbgkaedaaRead
namespace Go.Proofs.Ytbnnhalbgkaedaa.lawTells
open Go.RowKit Go.WideShapes Go.ChangeShapes Go.ChangeAt Go.Proofs.Ytbnnhalbgkaedaa

theorem parse_len (s : ByteArray) : (parseF s).1.length ≤ 100000 := by
  have hpt := parse_text s s.size 0 [] false (by omega) (by simp) (by simp)
  rw [show parseFrom s s.size 0 [] false = parseF s from rfl] at hpt
  by_cases h : (parseF s).2 = 0
  · exact (hpt.2 h).2.2.1
  · rw [(hpt.1 h).1]; simp

set_option maxRecDepth 100000 in
set_option maxHeartbeats 16000000 in
theorem walk (v : Value) (l : List PP) (s : ByteArray) (n m k : Int) (w : World) (hl : Picks w v l) (hwf : ∀ p ∈ l, Wf p) (hlen : l.length ≤ 1048576) (hs : s.size ≤ 1048576)
    (hn0 : -9223372036854775808 ≤ n) (hm0 : -9223372036854775808 ≤ m) (hk0 : -9223372036854775808 ≤ k) (hk1 : k ≤ 9223372036854775807) :
    Calls Try.prog 3 #[v, .string s, .int .i64 n, .int .i64 m, .int .i64 k] w fun e w' => e = .returned (.bool true) ∧ Below w.heap.size w w' := by
  have hl' := hl
  obtain ⟨A, c, rfl, h1, h2, -⟩ := hl'
  unfold maxLen at h2
  have HL := hide hl
  have HW := hide hwf
  clear hl hwf
  have pl := parse_len s
  have p1 := Parse_any s
  have p2 := fun w => rParse_any s w hs
  obtain ⟨PA, PE, hP⟩ : ∃ a e, parseF s = (a, e) := ⟨_, _, rfl⟩
  rw [hP] at pl
  simp only [hP] at p1 p2
  dsimp only at pl
  have P1 := hide p1
  have P2 := hide p2
  clear p1 p2 hP
  have rl : (roundL n m).length ≤ 33 := by
    have a1 := upto16_le n
    have a2 := upto16_le m
    rw [show roundL n m = rnd (upto16 n) (upto16 m) from rfl, rnd_len]; omega
  go_enter Try.func3, Try.ntmps3
  go_wp2_with fail
  refine (examples_any _).mono ?_
  rintro e w1 ⟨rfl, hb1⟩
  have HL := hide (HL.out.below hb1)
  go_wp2_with fail
  (with_reducible refine (P1.out _).mono ?_)
  rintro e w2 ⟨va, rfl, hoa, hb2⟩
  have hbw := bcall hb1 hb2
  have HA := hide (show Picks w2 va PA from Sl.of_own pc_len hoa)
  clear hoa
  have HL := hide (HL.out.below hb2)
  go_wp2_with fail
  (with_reducible refine (P2.out _).mono ?_)
  rintro e w3 ⟨vb, rfl, hob, hb3⟩
  have hbw := bcall hbw hb3
  have HB := hide (show Picks w3 vb PA from Sl.of_own pc_len hob)
  clear hob
  have HL := hide (HL.out.below hb3)
  have HA := hide (HA.out.below hb3)
  go_wp2
  go_loopw [16] (fun i wr => ∃ j : Nat, j ≤ l.length ∧ i = .int .i64 j ∧ Below w3.heap.size w3 wr) (fun i _ => l.length - (intOf i).toNat)
  case atStart => exact ⟨0, Nat.zero_le _, rfl, Below.refl _ _⟩
  case round =>
    obtain ⟨j, hj, rfl, hb⟩ := hrel
    have HL := hide (HL.out.below hb)
    have HA := hide (HA.out.below hb)
    have HB := hide (HB.out.below hb)
    by_cases hlt : j < l.length
    · obtain ⟨b, off, rfl, hbl, c0, c1⟩ := picks_at HL.out hlt
      generalize hR : right (l[j].1, l[j].2) = R
      have HR := hide hR
      clear hR
      go_wp2_with fail
      (with_reducible refine (Right_any _ _ _).mono ?_)
      rintro e w4 ⟨rfl, hb4⟩
      rw [HR.out]
      have HL := hide (HL.out.below hb4)
      have hb := bcall hb hb4
      go_wp2_with fail
      (with_reducible refine (refPicks_any _ l _ HL.out (by omega)).mono ?_)
      rintro e w5 ⟨vr, rfl, hor, hb5⟩
      have hb := bcall hb hb5
      have HC := hide (show Picks w5 vr l from Sl.of_own pc_len hor)
      obtain ⟨A2, cp2, rfl, hcp2, hcm2⟩ := own_form hor
      clear hor
      obtain ⟨b', off', rfl, hbl', d0, d1⟩ := picks_at HC.out hlt
      go_wp2_with fail
      (with_reducible refine (rRight_any _ _ _).mono ?_)
      rintro e w6 ⟨rfl, hb6⟩
      rw [HR.out]
      have hb := bcall hb hb6
      go_wp2
      go_roundw
      case rel => exact ⟨j + 1, by omega, by go_num, hb⟩
      case measure => simp [intOf]; omega
    · obtain ⟨F, hF⟩ : ∃ F, fairF l n m k = F := ⟨_, rfl⟩
      have HF := hide hF
      obtain ⟨K, hK⟩ : ∃ K, (l.all fun p => there p n m) = K := ⟨_, rfl⟩
      have HK := hide hK
      obtain ⟨T, hT⟩ : ∃ T, (⟨(printL l).toArray⟩ : ByteArray) = T := ⟨_, rfl⟩
      have HT := hide hT
      clear hF hK hT
      go_wp2_with fail
      (with_reducible refine (samePicks_any _ _ PA PA _ HA.out HB.out (by omega)).mono ?_)
      rintro e w4 ⟨rfl, hb4⟩
      rw [show decide (PA = PA) = true by simp]
      have HL := hide (HL.out.below hb4)
      have hb := bcall hb hb4
      go_wp2_with fail
      (with_reducible refine (Print_any _ l _ HL.out (by omega)).mono ?_)
      rintro e w5 ⟨rfl, hb5⟩
      rw [HT.out]
      have HL := hide (HL.out.below hb5)
      have hb := bcall hb hb5
      go_wp2_with fail
      (with_reducible refine (refPicks_any _ l _ HL.out (by omega)).mono ?_)
      rintro e w6 ⟨vr, rfl, hor, hb6⟩
      have HL := hide (HL.out.below hb6)
      have hb := bcall hb hb6
      have HC := hide (show Picks w6 vr l from Sl.of_own pc_len hor)
      clear hor
      go_wp2_with fail
      (with_reducible refine (rPrint_any _ l _ HC.out (by omega)).mono ?_)
      rintro e w7 ⟨rfl, hb7⟩
      rw [HT.out]
      have HL := hide (HL.out.below hb7)
      have hb := bcall hb hb7
      go_wp2_with fail
      (with_reducible refine (Known_any _ l _ _ _ HL.out).mono ?_)
      rintro e w8 ⟨rfl, hb8⟩
      rw [HK.out]
      have HL := hide (HL.out.below hb8)
      have hb := bcall hb hb8
      go_wp2_with fail
      (with_reducible refine (refPicks_any _ l _ HL.out (by omega)).mono ?_)
      rintro e w9 ⟨vr2, rfl, hor, hb9⟩
      have HL := hide (HL.out.below hb9)
      have hb := bcall hb hb9
      have HC := hide (show Picks w9 vr2 l from Sl.of_own pc_len hor)
      clear hor
      go_wp2_with fail
      (with_reducible refine (rKnown_any _ l _ _ _ HC.out).mono ?_)
      rintro e w10 ⟨rfl, hb10⟩
      rw [HK.out]
      have HL := hide (HL.out.below hb10)
      have hb := bcall hb hb10
      go_wp2_with fail
      (with_reducible refine (Fair_any _ l _ _ _ _ HL.out HW.out (by omega) (by omega) (by omega) (by omega) (by omega)).mono ?_)
      rintro e w11 ⟨rfl, hb11⟩
      rw [HF.out]
      have HL := hide (HL.out.below hb11)
      have hb := bcall hb hb11
      go_wp2_with fail
      (with_reducible refine (refPicks_any _ l _ HL.out (by omega)).mono ?_)
      rintro e w12 ⟨vr3, rfl, hor, hb12⟩
      have hb := bcall hb hb12
      have HC := hide (show Picks w12 vr3 l from Sl.of_own pc_len hor)
      clear hor
      go_wp2_with fail
      (with_reducible refine (rFair_any _ l _ _ _ _ HC.out (by omega) (by omega) (by omega) (by omega) (by omega)).mono ?_)
      rintro e w13 ⟨rfl, hb13⟩
      rw [HF.out]
      have hb := bcall hb hb13
      go_wp2_with fail
      (with_reducible refine (Round_any _ _ _).mono ?_)
      rintro e w14 ⟨vx, rfl, hox, hb14⟩
      have hb := bcall hb hb14
      have HX := hide (show Picks w14 vx (roundL n m) from Sl.of_own pc_len hox)
      clear hox
      go_wp2_with fail
      (with_reducible refine (rRound_any _ _ _ hn0 hm0).mono ?_)
      rintro e w15 ⟨vy, rfl, hoy, hb15⟩
      have hb := bcall hb hb15
      have HY := hide (show Picks w15 vy (roundL n m) from Sl.of_own pc_len hoy)
      clear hoy
      have HX := hide (HX.out.below hb15)
      go_wp2_with fail
      (with_reducible refine (samePicks_any _ _ (roundL n m) (roundL n m) _ HX.out HY.out (by omega)).mono ?_)
      rintro e w16 ⟨rfl, hb16⟩
      rw [show decide (roundL n m = roundL n m) = true by simp]
      have hb := bcall hb hb16
      go_wp2
      go_ret
      exact ⟨rfl, bcall hbw hb⟩

set_option maxRecDepth 100000 in
theorem lifted (os : Os) (started : os.Started) (H : Type) (enc : TypeId × Value → H) (F : Stop.Interp) :
    ReturnsInHanded {} Try.checked os 3 .any ((Rows.OpenSpec.upto Rows.pickTellsSpec).pre6 enc Try.prog Try.f3 Rows.pickTellsUptoRow.domain false) (((Rows.OpenSpec.upto Rows.pickTellsSpec).at F).post enc Try.prog Try.f3 false true false false) := by
  refine returnsInHanded_of_cond_sized (C := Try.checked) (s := Rows.OpenSpec.upto Rows.pickTellsSpec) (k := Rows.uptoSmall) rfl ownL started (by kernel_rfl) Try.func3
    (OpenSpec.witness (enc := enc) (C := Try.checked) (s := Rows.OpenSpec.upto Rows.pickTellsSpec) (k := Rows.uptoSmall) rfl false ⟨#[], #[.slice none 0 0, .string .empty, .int .i64 0, .int .i64 0, .int .i64 0], []⟩ 8 (by kernel_rfl) (by kernel_rfl) (by kernel_rfl)
      (x := ([.nil, .lit (.string []), .lit (.int .i64 0), .lit (.int .i64 0), .lit (.int .i64 0)], [], [])) (by kernel_rfl) rfl (by kernel_rfl)) ?_
  intro W base args ds gs before hval hW _ hk0 hsz0 _
  have hW' := hW
  obtain ⟨p, q, hA0, hV, rfl, hfz, hnd⟩ := hW
  have hA : DataW.TrodAll enc Try.prog W 0 (fun _ => true) true Try.f3.params.toList args.toList ds p := hA0
  rw [Try.params3] at hA hval
  obtain ⟨v0, vs0, d0, ds0, p0, q0, hargs, rfl, rfl, h0, r0⟩ := trodAll_cons hA
  obtain ⟨v1, vs1, d1, ds1, p1, q1, rfl, rfl, rfl, h1, r1⟩ := trodAll_cons r0
  obtain ⟨v2, vs2, d2, ds2, p2, q2, rfl, rfl, rfl, h2, r2⟩ := trodAll_cons r1
  obtain ⟨v3, vs3, d3, ds3, p3, q3, rfl, rfl, rfl, h3, r3⟩ := trodAll_cons r2
  obtain ⟨v4, vs4, d4, ds4, p4, q4, rfl, rfl, rfl, h4, r4⟩ := trodAll_cons r3
  obtain ⟨rfl, rfl, rfl⟩ := trodAll_nil r4
  obtain rfl : args = #[v0, v1, v2, v3, v4] := by cases args; simp_all
  obtain ⟨rfl, rfl⟩ := trodVars_none hV
  obtain ⟨l0, hl0, hq0, hd0⟩ := open_picks (hval 0 22 v0 rfl rfl) h0
  obtain ⟨s1, rfl, rfl, rfl, hs1⟩ := Go.ChangeMaps.open_string Try.underlying9 (hval 1 9 v1 rfl rfl) h1
  obtain ⟨a2, rfl, rfl, rfl, w2⟩ := open_int Try.underlying3 (hval 2 3 v2 rfl rfl) h2
  have hx2 : -9223372036854775808 ≤ a2 ∧ a2 ≤ 9223372036854775807 := by simpa [Lit.wf, IntKind.min, IntKind.max, IntKind.signed, IntKind.bits] using w2
  obtain ⟨a3, rfl, rfl, rfl, w3⟩ := open_int Try.underlying3 (hval 3 3 v3 rfl rfl) h3
  have hx3 : -9223372036854775808 ≤ a3 ∧ a3 ≤ 9223372036854775807 := by simpa [Lit.wf, IntKind.min, IntKind.max, IntKind.signed, IntKind.bits] using w3
  obtain ⟨a4, rfl, rfl, rfl, w4⟩ := open_int Try.underlying3 (hval 4 3 v4 rfl rfl) h4
  have hx4 : -9223372036854775808 ≤ a4 ∧ a4 ≤ 9223372036854775807 := by simpa [Lit.wf, IntKind.min, IntKind.max, IntKind.signed, IntKind.bits] using w4
  have hk : Rows.uptoBulkAll ([d0, .lit (.string s1.data.toList), .lit (.int .i64 a2), .lit (.int .i64 a3), .lit (.int .i64 a4)] : List (DataW H)) ≤ 1048576 := of_decide_eq_true hk0
  have e0 : l0.length + 1 ≤ 1048576 := by have h1 := slice_bulk hd0; have h2 := bulk_mem hk 0 rfl; omega
  have e1 : s1.size + 1 ≤ 1048576 := by have h1 : s1.data.toList.length = s1.size := (by rw [Array.length_toList]; rfl); have h2 := bulk_mem hk 1 rfl; simp only [Rows.uptoBulk] at h2; omega
  refine (walk v0 l0 s1 a2 a3 a4 W hl0 hq0 (by omega) (by omega) hx2.1 hx3.1 hx4.1 hx4.2).mono fun e W' ⟨he, hg⟩ => ?_
  subst he
  exact ⟨_, rfl, law_post laidOutL (by kernel_rfl) rfl Try.underlying4 rfl ⟨rfl, rfl, rfl⟩ hW' hg⟩

/-- THE STATEMENT -/
theorem proved : Rows.PickTellsUptoSaid :=
  OpenClaim.holds_of_cond 3 Try.f3 rfl rfl rfl rfl rfl rfl rfl ⟨rfl, rfl, rfl, rfl, rfl⟩ rfl rfl rfl rfl rfl (by kernel_rfl) Try.func3 (by kernel_rfl)
    (of_decide_eq_true (by kernel_rfl)) (by unfold Func.isWrapper; first | (rw [if_pos (by decide +kernel)]; kernel_rfl) | (rw [if_neg (by decide +kernel)]; exact ⟨rfl, rfl⟩))
    (fun os started H enc _ F => lifted os started H enc F)
end Go.Proofs.Ytbnnhalbgkaedaa.lawTells
