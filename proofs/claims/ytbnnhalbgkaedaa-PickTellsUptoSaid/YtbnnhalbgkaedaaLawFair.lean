/- PickFair: for any list of picks and any numbers: what is fair for so many picks is fair for more, for fewer machines, and so is each part of it. No condition. -/
import Derived.Test.YtbnnhalbgkaedaaEx
import Derived.Test.YtbnnhalbgkaedaaRead
namespace Go.Proofs.Ytbnnhalbgkaedaa.lawFair
open Go.RowKit Go.WideShapes Go.ChangeShapes Go.ChangeAt Go.Proofs.Ytbnnhalbgkaedaa

theorem fair_iff (l : List PP) (n m k : Int) : fairF l n m k = true ↔ 1 ≤ k ∧ ((l.length : Int) < k ∨ (n ≤ 16 ∧ m ≤ 16 ∧ ∀ i, i + k.toNat ≤ l.length → ∀ p ∈ roundL n m, p ∈ (l.drop i).take k.toNat)) := by
  unfold fairF
  by_cases h1 : k < 1
  · simp [h1]; omega
  rw [if_neg h1]
  by_cases h2 : (l.length : Int) < k
  · simp [h2]; omega
  rw [if_neg h2]
  by_cases h3 : 16 < n ∨ 16 < m
  · simp only [h3, if_true]; simp; omega
  rw [if_neg h3, List.all_eq_true]
  constructor
  · intro h
    refine ⟨by omega, .inr ⟨by omega, by omega, fun i hi p hp => ?_⟩⟩
    have := h i (by rw [List.mem_range]; omega)
    have := List.all_eq_true.1 this p hp
    simpa using this
  · rintro ⟨_, h | ⟨_, _, h⟩⟩
    · omega
    · intro i hi
      rw [List.mem_range] at hi
      exact List.all_eq_true.2 fun p hp => by simpa using h i (by omega) p hp
theorem fair_k {l : List PP} {n m k : Int} (h : fairF l n m k = true) : fairF l n m (k + 1) = true := by
  rw [fair_iff] at *
  obtain ⟨hk, h⟩ := h
  refine ⟨by omega, ?_⟩
  rcases h with h | ⟨h1, h2, h3⟩
  · exact .inl (by omega)
  · refine .inr ⟨h1, h2, fun i hi p hp => ?_⟩
    have e : (k + 1).toNat = k.toNat + 1 := by omega
    rw [e] at hi ⊢
    have := h3 i (by omega) p hp
    exact List.take_subset_take_left _ (Nat.le_succ _) this
theorem noWf : ∀ p ∈ ([] : List PP), Wf p := by intro p hp; cases hp
theorem kinds_sub {k : Int} {a b : Nat} (h : a ≤ b) {p : PP} (hp : p ∈ kindsTo k a) : p ∈ kindsTo k b := by
  rw [mem_kindsTo] at *; omega
theorem upto16_mono {a b : Int} (h : a ≤ b) : upto16 a ≤ upto16 b := by unfold upto16; omega
theorem round_sub {n m n' m' : Int} (h : n' ≤ n) (h2 : m' ≤ m) {p : PP} (hp : p ∈ roundL n' m') : p ∈ roundL n m := by
  simp only [roundL, List.mem_cons, List.mem_append] at *
  rcases hp with hp | hp | hp
  · exact .inl hp
  · exact .inr (.inl (kinds_sub (upto16_mono h) hp))
  · exact .inr (.inr (kinds_sub (upto16_mono h2) hp))
theorem fair_nm {l : List PP} {n m k n' m' : Int} (hn : n' ≤ n) (hm : m' ≤ m) (h : fairF l n m k = true) : fairF l n' m' k = true := by
  rw [fair_iff] at *
  obtain ⟨hk, h⟩ := h
  refine ⟨hk, ?_⟩
  rcases h with h | ⟨h1, h2, h3⟩
  · exact .inl h
  · exact .inr ⟨by omega, by omega, fun i hi p hp => h3 i hi p (round_sub hn hm hp)⟩
theorem fair_drop {l : List PP} {n m k : Int} (j : Nat) (h : fairF l n m k = true) : fairF (l.drop j) n m k = true := by
  rw [fair_iff] at *
  obtain ⟨hk, h⟩ := h
  refine ⟨hk, ?_⟩
  rcases h with h | ⟨h1, h2, h3⟩
  · exact .inl (by rw [List.length_drop]; omega)
  · by_cases hs : ((l.drop j).length : Int) < k
    · exact .inl hs
    · rw [List.length_drop] at hs
      refine .inr ⟨h1, h2, fun i hi p hp => ?_⟩
      rw [List.length_drop] at hi
      rw [List.drop_drop]
      exact h3 (j + i) (by omega) p hp

set_option maxHeartbeats 4000000 in
theorem walk (v : Value) (l : List PP) (n m k at_ : Int) (w : World) (hl : Picks w v l) (hwf : ∀ p ∈ l, Wf p) (hlen : l.length ≤ 8796093022208)
    (hn0 : 0 ≤ n) (hn1 : n ≤ 255) (hm0 : 0 ≤ m) (hm1 : m ≤ 255) (hk0 : 0 ≤ k) (hk1 : k ≤ 255) (ha0 : 0 ≤ at_) (ha1 : at_ ≤ 255) :
    Calls Try.prog 7 #[v, .int .u8 n, .int .u8 m, .int .u8 k, .int .u8 at_] w fun e w' => e = .returned (.bool true) ∧ Below w.heap.size w w' := by
  have hl' := hl
  obtain ⟨A, c, rfl, h1, h2, -⟩ := hl'
  unfold maxLen at h2
  have HL := hide hl
  clear hl
  go_enter Try.func7, Try.ntmps7
  go_wp2_with fail
  refine (examples_any _).mono ?_
  rintro e w1 ⟨rfl, hb1⟩
  have HL := hide (HL.out.below hb1)
  cases hF : fairF l (n % 5) (m % 5) (k % 40)
  · have HF := hide hF
    clear hF
    go_wp2_with fail
    refine (Fair_any _ l _ _ _ _ HL.out hwf hlen (by omega) (by omega) (by omega) (by omega)).mono ?_
    rintro e w2 ⟨rfl, hb2⟩
    rw [HF.out]
    have HL := hide (HL.out.below hb2)
    have hb := bcall hb1 hb2
    obtain ⟨j, hj⟩ : ∃ j : Nat, at_ % ((l.length : Int) + 1) = j := ⟨(at_ % ((l.length : Int) + 1)).toNat, (Int.toNat_of_nonneg (Int.emod_nonneg _ (by omega))).symm⟩
    have hjl : j ≤ l.length := by have := Int.emod_lt_of_pos at_ (show (0 : Int) < (l.length : Int) + 1 by omega); rw [hj] at this; omega
    go_wp2
    all_goals first | omega | skip
    all_goals go_ret
    all_goals exact ⟨rfl, hb⟩
  · have HF := hide hF
    clear hF
    go_wp2_with fail
    refine (Fair_any _ l _ _ _ _ HL.out hwf hlen (by omega) (by omega) (by omega) (by omega)).mono ?_
    rintro e w2 ⟨rfl, hb2⟩
    rw [HF.out]
    have HL := hide (HL.out.below hb2)
    have hb := bcall hb1 hb2
    obtain ⟨j, hj⟩ : ∃ j : Nat, at_ % ((l.length : Int) + 1) = j := ⟨(at_ % ((l.length : Int) + 1)).toNat, (Int.toNat_of_nonneg (Int.emod_nonneg _ (by omega))).symm⟩
    have hjl : j ≤ l.length := by have := Int.emod_lt_of_pos at_ (show (0 : Int) < (l.length : Int) + 1 by omega); rw [hj] at this; omega
    have H1 := hide (fair_k HF.out)
    have H2 := hide (fair_nm (n' := n % 5 - 1) (m' := m % 5) (by omega) (by omega) HF.out)
    have H3 := hide (fair_nm (n' := n % 5) (m' := m % 5 - 1) (by omega) (by omega) HF.out)
    have H4 := hide (fair_drop j HF.out)
    have hwd : ∀ p ∈ l.drop j, Wf p := fun p hp => hwf p (List.mem_of_mem_drop hp)
    have hld : (l.drop j).length ≤ 8796093022208 := by rw [List.length_drop]; omega
    have hwf := hide hwf
    have hwd := hide hwd
    by_cases hcj : c = j
    · subst hcj
      have H4 := hide (show fairF [] (n % 5) (m % 5) (k % 40) = true from (List.drop_eq_nil_of_le (show l.length ≤ c by omega)) ▸ H4.out)
      go_wp2_with fail
      (with_reducible refine (Fair_any _ l _ _ _ _ HL.out hwf.out hlen (by omega) (by omega) (by omega) (by omega)).mono ?_)
      rintro e w3 ⟨rfl, hb3⟩
      rw [H1.out]
      have HL := hide (HL.out.below hb3)
      have hb := bcall hb hb3
      go_wp2_with fail
      (with_reducible refine (Fair_any _ l _ _ _ _ HL.out hwf.out hlen (by omega) (by omega) (by omega) (by omega)).mono ?_)
      rintro e w4 ⟨rfl, hb4⟩
      rw [H2.out]
      have HL := hide (HL.out.below hb4)
      have hb := bcall hb hb4
      go_wp2_with fail
      (with_reducible refine (Fair_any _ l _ _ _ _ HL.out hwf.out hlen (by omega) (by omega) (by omega) (by omega)).mono ?_)
      rintro e w5 ⟨rfl, hb5⟩
      rw [H3.out]
      have HL := hide (HL.out.below hb5)
      have hb := bcall hb hb5
      go_wp2_with fail
      (with_reducible refine (Fair_any _ [] _ _ _ _ sl_zero noWf (by simp) (by omega) (by omega) (by omega) (by omega)).mono ?_)
      rintro e w6 ⟨rfl, hb6⟩
      rw [H4.out]
      have hb := bcall hb hb6
      go_wp2
      go_ret
      exact ⟨rfl, hb⟩
    · go_wp2_with fail
      (with_reducible refine (Fair_any _ l _ _ _ _ HL.out hwf.out hlen (by omega) (by omega) (by omega) (by omega)).mono ?_)
      rintro e w3 ⟨rfl, hb3⟩
      rw [H1.out]
      have HL := hide (HL.out.below hb3)
      have hb := bcall hb hb3
      go_wp2_with fail
      (with_reducible refine (Fair_any _ l _ _ _ _ HL.out hwf.out hlen (by omega) (by omega) (by omega) (by omega)).mono ?_)
      rintro e w4 ⟨rfl, hb4⟩
      rw [H2.out]
      have HL := hide (HL.out.below hb4)
      have hb := bcall hb hb4
      go_wp2_with fail
      (with_reducible refine (Fair_any _ l _ _ _ _ HL.out hwf.out hlen (by omega) (by omega) (by omega) (by omega)).mono ?_)
      rintro e w5 ⟨rfl, hb5⟩
      rw [H3.out]
      have HL := hide (HL.out.below hb5)
      have hb := bcall hb hb5
      go_wp2_with fail
      (with_reducible refine (Fair_any _ (l.drop j) _ _ _ _ (sl_cut HL.out hjl) hwd.out hld (by omega) (by omega) (by omega) (by omega)).mono ?_)
      rintro e w6 ⟨rfl, hb6⟩
      rw [H4.out]
      have hb := bcall hb hb6
      go_wp2
      go_ret
      exact ⟨rfl, hb⟩

set_option maxRecDepth 100000 in
theorem lifted (os : Os) (started : os.Started) (H : Type) (enc : TypeId × Value → H) :
    ReturnsInHanded {} Try.checked os 7 .any (Rows.pickFairSpec.pre6 enc Try.prog Try.f7 Rows.pickFairRow.domain false) (Rows.pickFairSpec.post enc Try.prog Try.f7 false true false false) := by
  refine returnsInHanded_of_change_sized (C := Try.checked) ownL started (by kernel_rfl) Try.func7
    (ChangeSpec.witness6 (enc := enc) (C := Try.checked) false ⟨#[], #[.slice none 0 0, .int .u8 0, .int .u8 0, .int .u8 0, .int .u8 0], []⟩ 8 (by kernel_rfl) (by kernel_rfl) (by kernel_rfl) (by kernel_rfl)) ?_
  intro W base args ds gs before hval hW _ hsz0 _
  have hW' := hW
  obtain ⟨p, q, hA0, hV, rfl, hfz, hnd⟩ := hW
  have hA : DataW.TrodAll enc Try.prog W 0 (fun _ => true) true Try.f7.params.toList args.toList ds p := hA0
  rw [Try.params7] at hA hval
  obtain ⟨v0, vs0, d0, ds0, p0, q0, hargs, rfl, rfl, h0, r0⟩ := trodAll_cons hA
  obtain ⟨v1, vs1, d1, ds1, p1, q1, rfl, rfl, rfl, h1, r1⟩ := trodAll_cons r0
  obtain ⟨v2, vs2, d2, ds2, p2, q2, rfl, rfl, rfl, h2, r2⟩ := trodAll_cons r1
  obtain ⟨v3, vs3, d3, ds3, p3, q3, rfl, rfl, rfl, h3, r3⟩ := trodAll_cons r2
  obtain ⟨v4, vs4, d4, ds4, p4, q4, rfl, rfl, rfl, h4, r4⟩ := trodAll_cons r3
  obtain ⟨rfl, rfl, rfl⟩ := trodAll_nil r4
  obtain rfl : args = #[v0, v1, v2, v3, v4] := by cases args; simp_all
  obtain ⟨rfl, rfl⟩ := trodVars_none hV
  obtain ⟨l0, hl0, hq0, hd0⟩ := open_picks (hval 0 22 v0 rfl rfl) h0
  obtain ⟨a1, rfl, rfl, rfl, w1⟩ := open_int Try.underlying5 (hval 1 5 v1 rfl rfl) h1
  have hx1 : 0 ≤ a1 ∧ a1 ≤ 255 := by simpa [Lit.wf, IntKind.min, IntKind.max, IntKind.signed, IntKind.bits] using w1
  obtain ⟨a2, rfl, rfl, rfl, w2⟩ := open_int Try.underlying5 (hval 2 5 v2 rfl rfl) h2
  have hx2 : 0 ≤ a2 ∧ a2 ≤ 255 := by simpa [Lit.wf, IntKind.min, IntKind.max, IntKind.signed, IntKind.bits] using w2
  obtain ⟨a3, rfl, rfl, rfl, w3⟩ := open_int Try.underlying5 (hval 3 5 v3 rfl rfl) h3
  have hx3 : 0 ≤ a3 ∧ a3 ≤ 255 := by simpa [Lit.wf, IntKind.min, IntKind.max, IntKind.signed, IntKind.bits] using w3
  obtain ⟨a4, rfl, rfl, rfl, w4⟩ := open_int Try.underlying5 (hval 4 5 v4 rfl rfl) h4
  have hx4 : 0 ≤ a4 ∧ a4 ≤ 255 := by simpa [Lit.wf, IntKind.min, IntKind.max, IntKind.signed, IntKind.bits] using w4
  have hsz : (DataW.weightsEach Try.prog [22, 5, 5, 5, 5] ([d0, .lit (.int .u8 a1), .lit (.int .u8 a2), .lit (.int .u8 a3), .lit (.int .u8 a4)] : List (DataW H))).all (· ≤ reachBytes) = true := hsz0
  have e0 : l0.length * 16 ≤ 140737488351232 := slice_reach hsz 0 rfl rfl Try.underlying22 (by kernel_rfl) hd0
  refine (walk v0 l0 a1 a2 a3 a4 W hl0 hq0 (by omega) hx1.1 hx1.2 hx2.1 hx2.2 hx3.1 hx3.2 hx4.1 hx4.2).mono fun e W' ⟨he, hg⟩ => ?_
  subst he
  exact ⟨_, rfl, law_post laidOutL (by kernel_rfl) rfl Try.underlying4 rfl ⟨rfl, rfl, rfl⟩ hW' hg⟩

/-- THE STATEMENT -/
theorem proved : Rows.PickFairSaid :=
  OpenClaim.holds_of_wide 7 Try.f7 rfl rfl rfl rfl rfl rfl rfl ⟨rfl, rfl, rfl, rfl, rfl⟩ rfl rfl rfl rfl rfl (by kernel_rfl) Try.func7 (by kernel_rfl)
    (of_decide_eq_true (by kernel_rfl)) (by unfold Func.isWrapper; first | (rw [if_pos (by decide +kernel)]; kernel_rfl) | (rw [if_neg (by decide +kernel)]; exact ⟨rfl, rfl⟩))
    (fun os started H enc _ => lifted os started H enc)
end Go.Proofs.Ytbnnhalbgkaedaa.lawFair
