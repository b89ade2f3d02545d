/- PickBack: for any list of bytes: what is printed of right picks is parsed as them, with blanks between, too. No condition. -/
import Derived.Test.YtbnnhalbgkaedaaLawApart
namespace Go.Proofs.Ytbnnhalbgkaedaa.lawBack
open Go.RowKit Go.WideShapes Go.ChangeShapes Go.ChangeAt Go.Proofs.Ytbnnhalbgkaedaa Go.Proofs.Ytbnnhalbgkaedaa.lawApart

def blanks (l : List PP) : List (Option PP ⊕ Unit) := l.flatMap fun p => [.inl none, .inr (), .inl (some p)]
theorem picks_blanks (l : List PP) : picksOf (blanks l) = l := by
  induction l with
  | nil => rfl
  | cons p l ih => show p :: picksOf (blanks l) = _; rw [ih]
theorem mem_blanks {l : List PP} {p : PP} (h : .inl (some p) ∈ blanks l) : p ∈ l := by
  simp only [blanks, List.mem_flatMap] at h
  obtain ⟨q, hq, h⟩ := h
  simp at h
  rw [h]; exact hq
theorem toks_blanks (l : List PP) (p : PP) : toks (blanks (l ++ [p])) = (toks (blanks l) ++ [32, 10]) ++ printL [p] := by
  simp [toks, blanks, tok, printL]
theorem toks_len (l : List PP) : (toks (blanks l)).length ≤ 6 * l.length := by
  induction l with
  | nil => simp [toks, blanks]
  | cons p l ih =>
    have := textP_le p
    have e : toks (blanks (p :: l)) = [32] ++ ([10] ++ (textP p ++ toks (blanks l))) := rfl
    rw [e]; simp only [List.length_append, List.length_cons, List.length_nil]; omega
theorem blank_cat : ([32, 10] : List UInt8).toArray = #[32, 10] := rfl

set_option maxRecDepth 100000 in
set_option maxHeartbeats 8000000 in
theorem walk (va : Value) (la : List Int) (w : World) (ha : Bytes w va la) (hra : ∀ b ∈ la, 0 ≤ b ∧ b ≤ 255) :
    Calls Try.prog 4 #[va] w fun e w' => e = .returned (.bool true) ∧ Below w.heap.size w w' := by
  have ha' := ha
  obtain ⟨A, c, rfl, h1, h2, -⟩ := ha'
  unfold maxLen at h2
  have hta : (la.take 3000).length ≤ 3000 := List.length_take_le _ _
  have hqa := hide (fun b (h : b ∈ la.take 3000) => hra b (List.mem_of_mem_take h))
  obtain ⟨X, hX⟩ : ∃ X, (la.take 3000).map someF = X := ⟨_, rfl⟩
  have lX : X.length ≤ 3000 := by rw [← hX, List.length_map]; exact hta
  have rX : ∀ p ∈ X, right p = true := by rw [← hX]; intro p hp; obtain ⟨b, _, rfl⟩ := List.mem_map.1 hp; exact someF_right b
  have HP1 := hide (parse_print X rX (by omega))
  have HP2 := hide (show parseF ⟨(toks (blanks (X.take 300))).toArray⟩ = (X.take 300, 0) by
    have := parse_all (blanks (X.take 300)) (fun p hp => rX p (List.mem_of_mem_take (mem_blanks hp))) (by rw [picks_blanks, List.length_take]; omega)
    rwa [picks_blanks] at this)
  have HX := hide hX
  have hra := hide hra
  clear hX rX
  have ha := hide (show Bytes w (.slice A (min (la.length : Int) 3000).toNat c) (la.take 3000) from take_min 3000 ha)
  go_enter Try.func4, Try.ntmps4
  go_wp2_with fail
  refine (examples_any _).mono ?_
  rintro e w1 ⟨rfl, hb1⟩
  go_wp2_with fail
  (with_reducible refine (some_any _ (la.take 3000) _ (ha.out.below hb1) hqa.out (by omega)).mono ?_)
  rintro e w2 ⟨v2, rfl, ho2, hb2⟩
  rw [HX.out] at ho2
  have hbb := bcall hb1 hb2
  have hX2 := hide (Sl.of_own pc_len ho2)
  obtain ⟨A2, c2, rfl, hc2, hc2m⟩ := own_form ho2
  clear ho2
  go_wp2_with fail
  (with_reducible refine (Print_any _ X _ hX2.out (by omega)).mono ?_)
  rintro e w3 ⟨rfl, hb3⟩
  have hX3 := hide (hX2.out.below hb3)
  have hbb := bcall hbb hb3
  go_wp2_with fail
  refine (Parse_any _ _).mono ?_
  rintro e w4 ⟨v4, rfl, ho4, hb4⟩
  rw [HP1.out] at ho4 ⊢
  have hX4 := hide (hX3.out.below hb4)
  have hP4 := hide (Sl.of_own pc_len ho4)
  have hbb := bcall hbb hb4
  clear ho4
  unfold maxLen at hc2m
  go_wp2
  go_loopw [7, 8] (fun s i wr => ∃ k : Nat, k ≤ X.length ∧ k ≤ 300 ∧ i = .int .i64 k ∧ s = .string ⟨(toks (blanks (X.take k))).toArray⟩ ∧ Below w4.heap.size w4 wr) (fun _ i _ => 300 - (intOf i).toNat)
  case atStart => exact ⟨0, Nat.zero_le _, Nat.zero_le _, rfl, rfl, Below.refl _ _⟩
  case round =>
    obtain ⟨k, hk, hk3, rfl, rfl, hbw⟩ := hrel
    have htl := toks_len (X.take k)
    have htk : (X.take k).length ≤ k := List.length_take_le _ _
    by_cases hlt : k < X.length ∧ k < 300
    · obtain ⟨hlt, hl3⟩ := hlt
      have hx := hX4.out.below hbw
      have hsub := hide (sl_sub (i := k) (j := k + 1) hx (by omega) (by omega))
      have hone : (X.drop k).take (k + 1 - k) = [X[k]] := by
        rw [show k + 1 - k = 1 by omega, List.drop_eq_getElem_cons hlt]; rfl
      rw [hone, show k + 1 - k = 1 by omega] at hsub
      have HS := hide (show toks (blanks (X.take (k + 1))) = (toks (blanks (X.take k)) ++ [32, 10]) ++ printL [X[k]] by rw [List.take_succ_eq_append_getElem hlt, toks_blanks])
      clear hone hx
      go_wp2_with fail
      (with_reducible refine (Print_any _ [X[k]] _ hsub.out (by simp)).mono ?_)
      rintro e w5 ⟨rfl, hb5⟩
      have hbw := bcall hbw hb5
      have hpo := printL_le [X[k]]
      simp only [List.length_cons, List.length_nil] at hpo
      go_wp2
      go_roundw
      case rel => exact ⟨k + 1, by omega, by omega, by go_num, by rw [HS.out, ← ba_append, ← ba_append], hbw⟩
      case measure => simp [intOf]; omega
    · have hxk : X.take k = X.take 300 := by
        rcases (show X.length ≤ k ∨ 300 ≤ k by omega) with h | h
        · rw [List.take_of_length_le h, List.take_of_length_le (by omega)]
        · rw [show k = 300 by omega]
      have HXK := hide hxk
      clear hxk
      have hXm := hide (show Picks w4 (.slice A2 (min (X.length : Int) 300).toNat c2) (X.take 300) by
        have h1 := sl_take (j := (min (X.length : Int) 300).toNat) hX4.out (by omega)
        have e : X.take (min (X.length : Int) 300).toNat = X.take 300 := by
          by_cases hk : X.length ≤ 300
          · rw [List.take_of_length_le hk, List.take_of_length_le (by omega)]
          · congr 1; omega
        rwa [e] at h1)
      rcases (show X.length ≤ k ∨ (k < X.length ∧ 300 ≤ k) by omega) with hkx | ⟨hkx, hkx2⟩
      all_goals
        go_wp2_with fail
        refine (Parse_any _ _).mono ?_
        rintro e w5 ⟨v5, rfl, ho5, hb5⟩
        rw [HXK.out, HP2.out] at ho5 ⊢
        have hQ5 := hide (Sl.of_own pc_len ho5)
        clear ho5
        have hbw := bcall hbw hb5
        go_wp2_with fail
        (with_reducible refine (same_any _ _ X X _ (hP4.out.below hbw) (hX4.out.below hbw)).mono ?_)
        rintro e w6 ⟨rfl, hb6⟩
        have hbw := bcall hbw hb6
        rw [show decide (X = X) = true by simp]
        go_wp2_with fail
        (with_reducible refine (same_any _ _ (X.take 300) (X.take 300) _ (hQ5.out.below hb6) (hXm.out.below hbw)).mono ?_)
        rintro e w7 ⟨rfl, hb7⟩
        have hbw := bcall hbw hb7
        rw [show decide (X.take 300 = X.take 300) = true by simp]
        go_wp2
        go_ret
        exact ⟨rfl, hbb.trans (hbw.mono hbb.size)⟩

set_option maxRecDepth 100000 in
theorem lifted (os : Os) (started : os.Started) (H : Type) (enc : TypeId × Value → H) :
    ReturnsInHanded {} Try.checked os 4 .any (Rows.pickBackSpec.pre6 enc Try.prog Try.f4 Rows.pickBackRow.domain false) (Rows.pickBackSpec.post enc Try.prog Try.f4 false true false false) := by
  refine returnsInHanded_of_change_sized (C := Try.checked) ownL started (by kernel_rfl) Try.func4
    (ChangeSpec.witness6 (enc := enc) (C := Try.checked) false ⟨#[], #[.slice none 0 0], []⟩ 8 (by kernel_rfl) (by kernel_rfl) (by kernel_rfl) (by kernel_rfl)) ?_
  intro W base args ds gs before hval hW _ hsz0 _
  have hW' := hW
  obtain ⟨p, q, hA0, hV, rfl, hfz, hnd⟩ := hW
  have hA : DataW.TrodAll enc Try.prog W 0 (fun _ => true) true Try.f4.params.toList args.toList ds p := hA0
  rw [Try.params4] at hA hval
  obtain ⟨v0, vs0, d0, ds0, p0, q0, hargs, rfl, rfl, h0, r0⟩ := trodAll_cons hA
  obtain ⟨rfl, rfl, rfl⟩ := trodAll_nil r0
  obtain rfl : args = #[v0] := by cases args; simp_all
  obtain ⟨rfl, rfl⟩ := trodVars_none hV
  obtain ⟨l0, hl0, hq0, hd0⟩ := open_bytes (hval 0 46 v0 rfl rfl) h0
  have hsz : (DataW.weightsEach Try.prog [46] ([d0] : List (DataW H))).all (· ≤ reachBytes) = true := hsz0
  have e0 : l0.length * 1 ≤ 140737488351232 := slice_reach hsz 0 rfl rfl Try.underlying46 (by kernel_rfl) hd0
  refine (walk v0 l0 W hl0 hq0).mono fun e W' ⟨he, hg⟩ => ?_
  subst he
  exact ⟨_, rfl, law_post laidOutL (by kernel_rfl) rfl Try.underlying4 rfl ⟨rfl, rfl, rfl⟩ hW' hg⟩

/-- THE STATEMENT -/
theorem proved : Rows.PickBackSaid :=
  OpenClaim.holds_of_wide 4 Try.f4 rfl rfl rfl rfl rfl rfl rfl ⟨rfl, rfl, rfl, rfl, rfl⟩ rfl rfl rfl rfl rfl (by kernel_rfl) Try.func4 (by kernel_rfl)
    (of_decide_eq_true (by kernel_rfl)) (by unfold Func.isWrapper; first | (rw [if_pos (by decide +kernel)]; kernel_rfl) | (rw [if_neg (by decide +kernel)]; exact ⟨rfl, rfl⟩))
    (fun os started H enc _ => lifted os started H enc)

end Go.Proofs.Ytbnnhalbgkaedaa.lawBack
