/- PickRounds: for any three numbers: rounds one behind another, begun at whichever pick, are fair for as many picks as a round has, and no fewer. No condition. -/
import Derived.Test.YtbnnhalbgkaedaaLawFair
namespace Go.Proofs.Ytbnnhalbgkaedaa.lawRounds
open Go.RowKit Go.WideShapes Go.ChangeShapes Go.ChangeAt Go.Proofs.Ytbnnhalbgkaedaa Go.Proofs.Ytbnnhalbgkaedaa.lawFair

theorem get3 (R : List PP) (s : Nat) (h : s < 3 * R.length) : (R ++ (R ++ R))[s]? = R[s % R.length]? := by
  by_cases h1 : s < R.length
  · rw [List.getElem?_append_left h1, Nat.mod_eq_of_lt h1]
  · rw [List.getElem?_append_right (by omega)]
    by_cases h2 : s - R.length < R.length
    · rw [List.getElem?_append_left h2]
      congr 1
      rw [Nat.mod_eq_sub_mod (by omega), Nat.mod_eq_of_lt h2]
    · rw [List.getElem?_append_right (by omega)]
      congr 1
      rw [Nat.mod_eq_sub_mod (by omega), Nat.mod_eq_sub_mod (by omega), Nat.mod_eq_of_lt (by omega)]
theorem find_rep (K i t : Nat) (hK : 0 < K) (ht : t < K) : ∃ s, i ≤ s ∧ s < i + K ∧ s % K = t := by
  have hi := Nat.div_add_mod i K
  have hm := Nat.mod_lt i hK
  by_cases h : i % K ≤ t
  · refine ⟨K * (i / K) + t, by omega, by omega, ?_⟩
    rw [Nat.mul_add_mod]; exact Nat.mod_eq_of_lt ht
  · refine ⟨K * (i / K + 1) + t, by rw [Nat.mul_add]; omega, by rw [Nat.mul_add]; omega, ?_⟩
    rw [Nat.mul_add_mod]; exact Nat.mod_eq_of_lt ht
theorem sz_len (L : List PP) (hL : L.Nodup) : ∀ V : List PP, sz L V ≤ V.length
  | [] => by simp [sz]
  | q :: V => by have := sz_len L hL V; rw [sz_cons L hL]; simp only [List.length_cons]; split <;> omega
theorem roundL_len {x y : Int} (hx0 : 0 ≤ x) (hx1 : x ≤ 16) (hy0 : 0 ≤ y) (hy1 : y ≤ 16) : ((roundL x y).length : Int) = 1 + x + y := by
  rw [show roundL x y = rnd (upto16 x) (upto16 y) from rfl, rnd_len]
  unfold upto16; omega
theorem fair_round {x y : Int} (hx1 : x ≤ 16) (hy1 : y ≤ 16) (j : Nat) : fairF ((roundL x y ++ (roundL x y ++ roundL x y)).drop j) x y (roundL x y).length = true := by
  have hK : 0 < (roundL x y).length := by simp [roundL]
  rw [fair_iff]
  refine ⟨by omega, .inr ⟨hx1, hy1, fun i hi p hp => ?_⟩⟩
  rw [Int.toNat_natCast] at hi ⊢
  rw [List.length_drop] at hi
  obtain ⟨t, ht⟩ := List.getElem?_of_mem hp
  have htl : t < (roundL x y).length := (List.getElem?_eq_some_iff.1 ht).1
  obtain ⟨s, h1, h2, h3⟩ := find_rep (roundL x y).length (j + i) t hK htl
  have hl3 : (roundL x y ++ (roundL x y ++ roundL x y)).length = 3 * (roundL x y).length := by simp; omega
  have hs := get3 (roundL x y) s (by omega)
  rw [h3, ht] at hs
  refine List.mem_of_getElem? (i := s - (j + i)) ?_
  rw [List.getElem?_take, if_pos (by omega), List.getElem?_drop, List.getElem?_drop, show j + (i + (s - (j + i))) = s by omega, hs]
theorem unfair_round {x y : Int} (hx1 : x ≤ 16) (hy1 : y ≤ 16) {j : Nat} (hj : j < (roundL x y).length) (h2 : 2 ≤ (roundL x y).length) : fairF ((roundL x y ++ (roundL x y ++ roundL x y)).drop j) x y ((roundL x y).length - 1 : Int) = false := by
  rw [← Bool.not_eq_true]
  intro h
  rw [fair_iff] at h
  have hl3 : (roundL x y ++ (roundL x y ++ roundL x y)).length = 3 * (roundL x y).length := by simp; omega
  rw [List.length_drop, hl3] at h
  rcases h.2 with h | ⟨_, _, h⟩
  · omega
  · have e : ((roundL x y).length - 1 : Int).toNat = (roundL x y).length - 1 := by omega
    rw [e] at h
    have h0 := h 0 (by omega)
    rw [List.drop_zero] at h0
    have h1 := (sz_all (roundL x y) (((roundL x y ++ (roundL x y ++ roundL x y)).drop j).take ((roundL x y).length - 1))).2 (List.all_eq_true.2 fun p hp => by simpa using h0 p hp)
    have h2 := sz_len (roundL x y) (nodup_roundL x y) (((roundL x y ++ (roundL x y ++ roundL x y)).drop j).take ((roundL x y).length - 1))
    rw [h1, List.length_take] at h2
    omega
theorem known_round {x y : Int} (hx1 : x ≤ 16) (hy1 : y ≤ 16) : ((roundL x y).all fun p => there p x y) = true :=
  List.all_eq_true.2 fun p hp => (mem_roundL hx1 hy1).1 hp
theorem wf_round {x y : Int} : ∀ p ∈ roundL x y, Wf p := by
  intro p hp
  simp only [roundL, List.mem_cons, List.mem_append, mem_kindsTo] at hp
  have h1 := upto16_le x; have h2 := upto16_le y
  rcases hp with rfl | ⟨h, h3, h4⟩ | ⟨h, h3, h4⟩
  · exact ⟨by decide, by decide⟩
  · exact ⟨by rw [h]; decide, WalkArith.wf_i64 (by omega)⟩
  · exact ⟨by rw [h]; decide, WalkArith.wf_i64 (by omega)⟩

set_option maxHeartbeats 4000000 in
theorem walk (n m k : Int) (w : World) (hn0 : 0 ≤ n) (hn1 : n ≤ 255) (hm0 : 0 ≤ m) (hm1 : m ≤ 255) (hk0 : 0 ≤ k) (hk1 : k ≤ 255) :
    Calls Try.prog 6 #[.int .u8 n, .int .u8 m, .int .u8 k] w fun e w' => e = .returned (.bool true) ∧ Below w.heap.size w w' := by
  obtain ⟨i0, hi, hz0, hz1, hz2⟩ := info_parts info32
  have hlen := roundL_len (x := n % 17) (y := m % 17) (by omega) (by omega) (by omega) (by omega)
  have H1 := hide (known_round (x := n % 17) (y := m % 17) (by omega) (by omega))
  have H2 := hide (fun j => fair_round (x := n % 17) (y := m % 17) (by omega) (by omega) j)
  have H3 := hide (fun j hj h2 => unfair_round (x := n % 17) (y := m % 17) (by omega) (by omega) (j := j) hj h2)
  have H5 := hide (wf_round (x := n % 17) (y := m % 17))
  generalize hR : roundL (n % 17) (m % 17) = R at *
  have HR := hide hR
  clear hR
  have hK : 0 < R.length := by omega
  have hl3 : (R ++ (R ++ R)).length = 3 * R.length := by simp; omega
  obtain ⟨j, hj⟩ : ∃ j : Nat, k % (R.length : Int) = j := ⟨(k % (R.length : Int)).toNat, (Int.toNat_of_nonneg (Int.emod_nonneg _ (by omega))).symm⟩
  have hjl : j < R.length := by have := Int.emod_lt_of_pos k (show (0 : Int) < (R.length : Int) by omega); rw [hj] at this; omega
  have hR33 : R.length ≤ 33 := by omega
  have e1 : (1 + n % 17 + m % 17 : Int) = (R.length : Int) := by omega
  have HL := hide hlen
  clear hlen
  go_enter Try.func6, Try.ntmps6
  go_wp2_with fail
  refine (examples_any _).mono ?_
  rintro e w1 ⟨rfl, hb1⟩
  have hs1 := hb1.size
  go_wp2_with fail
  refine (Round_any _ _ _).mono ?_
  rintro e w2 ⟨v2, rfl, ho2, hb2⟩
  rw [HR.out] at ho2
  have hb := bcall hb1 hb2
  have hs2 := hb.size
  have hR0 := hide (Sl.of_own pc_len ho2)
  obtain ⟨A2, c2, rfl, _, _⟩ := own_form ho2
  clear ho2
  go_wp2_with (first
    | (at_builtin; refine wpList_append_sl _ rfl (.const (.slice none 0 0)) _ 22 rfl w2.heap.size 32 i0 (.agg #[.int .i64 0, .int .i64 0]) 2 16 Try.underlying22 hi hz0 hz1 hz2 rfl (by decide) _ _ _ rfl (World.ownsRow_nil _ _ _ _) _ R rfl hR0.out pc_len (fun p u hu => by simp [pc] at hu; rcases hu with rfl | rfl <;> rfl) (by simp only [maxLen]; omega) (by omega) (by omega) ?_; intro v3 w3 ho3 hb3; have hs3 := hb3.size)
    | (at_builtin; refine wpList_append_sl _ rfl _ _ 22 rfl w2.heap.size 32 i0 (.agg #[.int .i64 0, .int .i64 0]) 2 16 Try.underlying22 hi hz0 hz1 hz2 rfl (by decide) _ _ _ rfl ho3 _ R rfl (hR0.out.below hb3) pc_len (fun p u hu => by simp [pc] at hu; rcases hu with rfl | rfl <;> rfl) (by simp only [maxLen]; omega) (by omega) (by omega) ?_; intro v4 w4 ho4 hb4; have hb4 := hb3.trans hb4; have hs4 := hb4.size)
    | (at_builtin; refine wpList_append_sl _ rfl _ _ 22 rfl w2.heap.size 32 i0 (.agg #[.int .i64 0, .int .i64 0]) 2 16 Try.underlying22 hi hz0 hz1 hz2 rfl (by decide) _ _ _ rfl ho4 _ R rfl (hR0.out.below hb4) pc_len (fun p u hu => by simp [pc] at hu; rcases hu with rfl | rfl <;> rfl) (by simp only [maxLen]; omega) (by omega) (by omega) ?_; intro v5 w5 ho5 hb5; have hb5 := hb4.trans hb5; have hR5 := hide (hR0.out.below hb5); have hS5 := hide (show Picks w5 v5 (R ++ (R ++ R)) from Sl.of_own pc_len (by rw [hl3, List.flatMap_append, List.flatMap_append, ← List.append_assoc, show 3 * R.length = 0 + R.length + R.length + R.length by omega]; exact ho5)); obtain ⟨A5, c5, rfl, hc5, hc5m⟩ : ∃ A c, v5 = .slice A (3 * R.length) c ∧ 3 * R.length ≤ c ∧ c ≤ maxLen := (by obtain ⟨A, c, h, h1, h2⟩ := own_form ho5; exact ⟨A, c, by rw [h]; congr 1; omega, by omega, h2⟩)))
  have hbw := Below.refl w5.heap.size w5
  have hC := hide (sl_cut (j := j) hS5.out (by omega))
  have hwd : ∀ p ∈ (R ++ (R ++ R)).drop j, Wf p := fun p hp => H5.out p (by have := List.mem_of_mem_drop hp; simpa using this)
  have hwd := hide hwd
  have hld : ((R ++ (R ++ R)).drop j).length ≤ 8796093022208 := by rw [List.length_drop]; omega
  (with_reducible refine (Known_any _ R _ _ _ hR5.out).mono ?_)
  rintro e w6 ⟨rfl, hb6⟩
  rw [H1.out]
  have hbw := bcall hbw hb6
  go_wp2_with fail
  (with_reducible refine (Fair_any _ ((R ++ (R ++ R)).drop j) _ _ _ _ (hC.out.below hbw) hwd.out hld (by omega) (by omega) (by omega) (by omega)).mono ?_)
  rintro e w7 ⟨rfl, hb7⟩
  rw [H2.out j]
  have hbw := bcall hbw hb7
  by_cases hK1 : R.length = 1
  · have q1 : ((R.length : Int) == 1) = true := by rw [hK1]; rfl
    have H6 := hide (fair_k (H2.out j))
    clear hK1
    go_wp2_with fail
    (with_reducible refine (Fair_any _ ((R ++ (R ++ R)).drop j) _ _ _ _ (hC.out.below hbw) hwd.out hld (by omega) (by omega) (by omega) (by omega)).mono ?_)
    rintro e w8 ⟨rfl, hb8⟩
    rw [H6.out]
    have hbw := bcall hbw hb8
    go_wp2
    go_ret
    exact ⟨rfl, hb.trans (hb5.mono hs2 |>.trans (hbw.mono (by have := hb5.size; omega)))⟩
  · have q1 : ((R.length : Int) == 1) = false := by rw [beq_eq_false_iff_ne]; omega
    have H6 := hide (fair_k (H2.out j))
    have H7 := hide (H3.out j hjl (by omega))
    go_wp2_with fail
    (with_reducible refine (Fair_any _ ((R ++ (R ++ R)).drop j) _ _ _ _ (hC.out.below hbw) hwd.out hld (by omega) (by omega) (by omega) (by omega)).mono ?_)
    rintro e w8 ⟨rfl, hb8⟩
    rw [H7.out]
    have hbw := bcall hbw hb8
    go_wp2_with fail
    (with_reducible refine (Fair_any _ ((R ++ (R ++ R)).drop j) _ _ _ _ (hC.out.below hbw) hwd.out hld (by omega) (by omega) (by omega) (by omega)).mono ?_)
    rintro e w9 ⟨rfl, hb9⟩
    rw [H6.out]
    have hbw := bcall hbw hb9
    go_wp2
    go_ret
    exact ⟨rfl, hb.trans (hb5.mono hs2 |>.trans (hbw.mono (by have := hb5.size; omega)))⟩

set_option maxRecDepth 100000 in
theorem lifted (os : Os) (started : os.Started) (H : Type) (enc : TypeId × Value → H) :
    ReturnsInHanded {} Try.checked os 6 .any (Rows.pickRoundsSpec.pre6 enc Try.prog Try.f6 Rows.pickRoundsRow.domain false) (Rows.pickRoundsSpec.post enc Try.prog Try.f6 false true false false) := by
  refine returnsInHanded_of_change_sized (C := Try.checked) ownL started (by kernel_rfl) Try.func6
    (ChangeSpec.witness6 (enc := enc) (C := Try.checked) false ⟨#[], #[.int .u8 0, .int .u8 0, .int .u8 0], []⟩ 8 (by kernel_rfl) (by kernel_rfl) (by kernel_rfl) (by kernel_rfl)) ?_
  intro W base args ds gs before hval hW _ hsz0 _
  have hW' := hW
  obtain ⟨p, q, hA0, hV, rfl, hfz, hnd⟩ := hW
  have hA : DataW.TrodAll enc Try.prog W 0 (fun _ => true) true Try.f6.params.toList args.toList ds p := hA0
  rw [Try.params6] at hA hval
  obtain ⟨v0, vs0, d0, ds0, p0, q0, hargs, rfl, rfl, h0, r0⟩ := trodAll_cons hA
  obtain ⟨v1, vs1, d1, ds1, p1, q1, rfl, rfl, rfl, h1, r1⟩ := trodAll_cons r0
  obtain ⟨v2, vs2, d2, ds2, p2, q2, rfl, rfl, rfl, h2, r2⟩ := trodAll_cons r1
  obtain ⟨rfl, rfl, rfl⟩ := trodAll_nil r2
  obtain rfl : args = #[v0, v1, v2] := by cases args; simp_all
  obtain ⟨rfl, rfl⟩ := trodVars_none hV
  obtain ⟨a0, rfl, rfl, rfl, w0⟩ := open_int Try.underlying5 (hval 0 5 v0 rfl rfl) h0
  have hx0 : 0 ≤ a0 ∧ a0 ≤ 255 := by simpa [Lit.wf, IntKind.min, IntKind.max, IntKind.signed, IntKind.bits] using w0
  obtain ⟨a1, rfl, rfl, rfl, w1⟩ := open_int Try.underlying5 (hval 1 5 v1 rfl rfl) h1
  have hx1 : 0 ≤ a1 ∧ a1 ≤ 255 := by simpa [Lit.wf, IntKind.min, IntKind.max, IntKind.signed, IntKind.bits] using w1
  obtain ⟨a2, rfl, rfl, rfl, w2⟩ := open_int Try.underlying5 (hval 2 5 v2 rfl rfl) h2
  have hx2 : 0 ≤ a2 ∧ a2 ≤ 255 := by simpa [Lit.wf, IntKind.min, IntKind.max, IntKind.signed, IntKind.bits] using w2
  refine (walk a0 a1 a2 W hx0.1 hx0.2 hx1.1 hx1.2 hx2.1 hx2.2).mono fun e W' ⟨he, hg⟩ => ?_
  subst he
  exact ⟨_, rfl, law_post laidOutL (by kernel_rfl) rfl Try.underlying4 rfl ⟨rfl, rfl, rfl⟩ hW' hg⟩

/-- THE STATEMENT -/
theorem proved : Rows.PickRoundsSaid :=
  OpenClaim.holds_of_wide 6 Try.f6 rfl rfl rfl rfl rfl rfl rfl ⟨rfl, rfl, rfl, rfl, rfl⟩ rfl rfl rfl rfl rfl (by kernel_rfl) Try.func6 (by kernel_rfl)
    (of_decide_eq_true (by kernel_rfl)) (by unfold Func.isWrapper; first | (rw [if_pos (by decide +kernel)]; kernel_rfl) | (rw [if_neg (by decide +kernel)]; exact ⟨rfl, rfl⟩))
    (fun os started H enc _ => lifted os started H enc)

end Go.Proofs.Ytbnnhalbgkaedaa.lawRounds
