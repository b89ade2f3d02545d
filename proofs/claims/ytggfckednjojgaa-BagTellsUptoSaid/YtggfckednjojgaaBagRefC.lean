/- Layer bag: the document's own answer: Less, Once. -/
import Derived.Test.YtggfckednjojgaaBagRefB
import Derived.Test.YtggfckednjojgaaBagOpen
namespace Go.Proofs.Ytggfckednjojgaa
open Go.RowKit

theorem less_step {X : List Int} {x : Int} {l : List Int} (h : X.count x ≠ 0) : lessFrom X (x :: l) = lessFrom (addB X x (-1)) l := by
  rw [lessFrom, if_neg (show ¬ countB X x = 0 from h)]
theorem less_stop {X : List Int} {x : Int} {l : List Int} (h : X.count x = 0) : lessFrom X (x :: l) = none := by
  rw [lessFrom, if_pos (show countB X x = 0 from h)]
set_option maxHeartbeats 2000000 in
theorem rLess_c (v u : Value) (a b : List Int) (w : World) (h : Ints w v a) (h' : Ints w u b) (hb : a.length ≤ 3000000) (r : List Int) (hr : lessL a b = r) (t : Bool) (ht : (lessB a b).isSome = t) (m : Nat) (hm : r.length = m) :
    Calls Try.prog 11 #[v, u] w fun e w' => ∃ A c, e = .returned (.tuple #[.slice A m c, .bool t]) ∧ (m ≤ c ∧ c ≤ 2 ^ 63 - 1) ∧ Ints w' (.slice A m c) r ∧ Below w.heap.size w w' := by
  obtain ⟨A, c, rfl, h1, h2⟩ := sl_form h
  obtain ⟨B, d, rfl, h3, h4⟩ := sl_form h'
  have HA := hide h
  have HU := hide h'
  have HR := hide hr
  have HT := hide ht
  clear h h' hr ht
  obtain ⟨N0, hN0⟩ : ∃ N0, normB a = N0 := ⟨_, rfl⟩
  have hN0l : N0.length ≤ 3000000 := by rw [← hN0, norm_len]; exact hb
  have HN0 := hide hN0
  have HL0 := hide (show lessFrom N0 b = lessB a b by rw [← hN0]; rfl)
  clear hN0
  go_enter Try.func11, Try.ntmps11
  go_wp2_with fail
  (with_reducible refine (rNorm_c _ a _ HA.out (by omega) N0 HN0.out _ rfl).mono ?_)
  rintro e w1 ⟨A1, c1, rfl, ⟨q1, q2⟩, H1, hb1⟩
  have H1 := hide H1
  go_wp2
  go_loopw [6, 7] (fun v i wr => ∃ (k : Nat) (X : List Int) (A2 : Option Addr) (c2 : Nat), k ≤ b.length ∧ i = .int .i64 k ∧ v = .slice A2 X.length c2 ∧ (X.length ≤ c2 ∧ c2 ≤ 2 ^ 63 - 1) ∧ X.length ≤ 3000000 ∧ Hid (Ints wr (.slice A2 X.length c2) X) ∧ Hid (lessFrom X (b.drop k) = lessB a b) ∧ Below w.heap.size w wr) (fun _ i _ => b.length - (Go.RowKit.intOf i).toNat)
  case atStart => exact ⟨0, N0, A1, c1, Nat.zero_le _, rfl, rfl, ⟨q1, q2⟩, hN0l, H1, hide (by simpa using HL0.out), hb1⟩
  case round =>
    obtain ⟨k, X, A2, c2, hk, rfl, rfl, ⟨p1, p2⟩, hXl, HX, HI, hbw⟩ := hrel
    by_cases hlt : k < b.length
    · obtain ⟨b1, o1, rfl, -, d0⟩ := ints_at (HU.out.below hbw) hlt
      have hdr : b.drop k = b[k] :: b.drop (k + 1) := List.drop_eq_getElem_cons hlt
      have hinv := HI.out
      rw [hdr] at hinv
      generalize b[k] = x at *
      obtain ⟨n, hn⟩ : ∃ n : Nat, X.count x = n := ⟨_, rfl⟩
      have HN := hide (show ((X.count x : Nat) : Int) = (n : Int) by rw [hn])
      rcases Nat.eq_zero_or_pos n with h0 | h0
      · subst h0
        have hno := hide (show lessB a b = none by rw [← hinv]; exact less_stop hn)
        clear hdr hinv hn
        go_wp2_with fail
        (with_reducible refine (rCount_c _ X _ _ HX.out (by omega) _ HN.out).mono ?_)
        rintro e w5 ⟨rfl, hb5⟩
        go_wp2
        go_ret2
        have hr := HR.out
        have ht := HT.out
        rw [hno.out] at ht
        unfold lessL at hr
        rw [hno.out] at hr
        subst ht
        simp only [Option.getD_none] at hr
        subst hr
        subst hm
        exact ⟨none, 0, rfl, ⟨Nat.le_refl _, by decide⟩, Sl.nil_, hbw.trans (hb5.mono hbw.size)⟩
      · have hinv2 := hide (show lessFrom (addB X x (-1)) (b.drop (k + 1)) = lessB a b by rw [← hinv]; exact (less_step (by omega)).symm)
        have q : ((n : Int) == 0) = false := by rw [beq_eq_false_iff_ne]; omega
        have hyl : (addB X x (-1)).length ≤ X.length := by have := add_len_le X x (-1); have e : (-1 : Int).toNat = 0 := rfl; omega
        obtain ⟨Y, hY⟩ : ∃ Y, addB X x (-1) = Y := ⟨_, rfl⟩
        rw [hY] at hinv2 hyl
        have HY := hide hY
        clear hdr hinv hn hY
        go_wp2_with fail
        (with_reducible refine (rCount_c _ X _ _ HX.out (by omega) _ HN.out).mono ?_)
        rintro e w5 ⟨rfl, hb5⟩
        have HX := hide (HX.out.below hb5)
        have d1 := keepc hb5 d0
        go_wp2_with fail
        (with_reducible refine (rAdd_c _ X x (-1) _ HX.out (by unfold Kw; omega) (by omega) Y HY.out _ rfl).mono ?_)
        rintro e w6 ⟨A6, c6, rfl, q6, H6, hb6⟩
        have H6 := hide H6
        go_wp2
        go_roundw
        case rel => exact ⟨k + 1, Y, A6, c6, by omega, by go_num, rfl, q6, by omega, H6, hinv2, (hbw.trans (hb5.mono hbw.size)).trans (hb6.mono (Nat.le_trans hbw.size hb5.size))⟩
        case measure => simp [Go.RowKit.intOf]; omega
    · have hI := HI.out
      rw [List.drop_eq_nil_of_le (by omega)] at hI
      have hI2 := hide (show lessB a b = some X from hI.symm)
      clear hI
      go_wp2
      go_ret2
      have hr := HR.out
      have ht := HT.out
      rw [hI2.out] at ht
      unfold lessL at hr
      rw [hI2.out] at hr
      subst ht
      simp only [Option.getD_some] at hr
      subst hr
      subst hm
      exact ⟨A2, c2, rfl, ⟨p1, p2⟩, HX.out, hbw⟩

theorem once_take {b : List Int} {k : Nat} (h : k < b.length) : onceB (b.take (k + 1)) = (onceB (b.take k) && (decide (1 ≤ b[k] ∧ b[k] ≤ 64) && !hasF (ofF (b.take k)) b[k])) := by
  rw [List.take_succ_eq_append_getElem h]
  generalize b.take k = l
  generalize b[k] = x
  unfold onceB
  rw [Bool.eq_iff_iff, decide_eq_true_eq, Bool.and_eq_true, Bool.and_eq_true, decide_eq_true_eq, decide_eq_true_eq, Bool.not_eq_true', has_of, List.nodup_append]
  constructor
  · rintro ⟨h1, h2, -, h4⟩
    have hx := h1 x (by simp)
    refine ⟨⟨fun o ho => h1 o (by simp [ho]), h2⟩, hx, ?_⟩
    rw [decide_eq_true hx, Bool.true_and, decide_eq_false_iff_not]
    exact fun hm => h4 x hm x (by simp) rfl
  · rintro ⟨⟨h1, h2⟩, hx, h3⟩
    rw [decide_eq_true hx, Bool.true_and, decide_eq_false_iff_not] at h3
    refine ⟨fun o ho => ?_, h2, by simp, fun y hy z hz e => ?_⟩
    · rcases List.mem_append.1 ho with ho | ho
      · exact h1 o ho
      · rw [List.mem_singleton.1 ho]; exact hx
    · rw [List.mem_singleton.1 hz] at e
      exact h3 (e ▸ hy)
theorem once_pre {b : List Int} {k : Nat} (h : onceB (b.take k) = false) : onceB b = false := by
  rw [← Bool.not_eq_true] at h ⊢
  intro hb
  apply h
  unfold onceB at hb ⊢
  rw [decide_eq_true_eq] at hb ⊢
  exact ⟨fun o ho => hb.1 o (List.mem_of_mem_take ho), hb.2.sublist (List.take_sublist k b)⟩
theorem rHas_c (s : Nat) (o : Int) (w : World) (hs : s < 18446744073709551616) (ho : Kw o) (t : Bool) (ht : hasF s o = t) :
    Calls Try.prog 29 #[.int .u64 s, .int .i64 o] w fun e w' => e = .returned (.bool t) ∧ w' = w := by
  subst ht
  exact rHas_any s o w hs ho.1 ho.2
set_option maxHeartbeats 2000000 in
theorem rOnce_c (v : Value) (b : List Int) (w : World) (h : Ints w v b) (hk : AllK b) (s : Int) (hs : ((onceV b : Nat) : Int) = s) (t : Bool) (ht : onceB b = t) :
    Calls Try.prog 13 #[v] w fun e w' => e = .returned (.tuple #[.int .u64 s, .bool t]) ∧ Below w.heap.size w w' := by
  subst hs ht
  obtain ⟨A, c, rfl, h1, h2⟩ := sl_form h
  have HB := hide h
  have HK := hide hk
  clear h hk
  go_enter Try.func13, Try.ntmps13
  go_wp2
  go_loop [4, 5] (fun s i => ∃ k : Nat, k ≤ b.length ∧ i = .int .i64 k ∧ s = .int .u64 (ofF (b.take k) : Nat) ∧ Hid (onceB (b.take k) = true)) (fun _ i => b.length - (Go.RowKit.intOf i).toNat)
  case atStart => exact ⟨0, Nat.zero_le _, rfl, rfl, hide (by rw [List.take_zero]; decide)⟩
  case round =>
    obtain ⟨k, hk, rfl, rfl, HI⟩ := hrel
    by_cases hlt : k < b.length
    · obtain ⟨b1, o1, rfl, -, d0⟩ := ints_at HB.out hlt
      have hx := HK.out _ (List.getElem_mem hlt)
      have hst := once_take hlt
      have hg := (show -9223372036854775808 ≤ b[k] ∧ b[k] ≤ 9223372036854775807 from hx)
      have HS := hide (ofF_snoc b k hlt)
      have hlo := ofF_lt (b.take k)
      rw [HI.out, Bool.true_and] at hst
      generalize b[k] = x at *
      by_cases hr : 1 ≤ x ∧ x ≤ 64
      · have t1 : decide (x < 1) = false := decide_eq_false (by omega)
        have t2 : decide (x > 64) = false := decide_eq_false (by omega)
        have t3 : decide (64 < x) = false := decide_eq_false (by omega)
        rw [decide_eq_true hr, Bool.true_and] at hst
        cases hh : hasF (ofF (b.take k)) x
        · rw [hh] at hst
          have HST := hide (show onceB (b.take (k + 1)) = true from hst)
          have HH := hide hh
          clear hst hh hr
          go_wp2_with (first
            | (go_at_call 29; (with_reducible refine (rHas_c _ x _ hlo hx _ HH.out).mono ?_); rintro e w' ⟨rfl, rfl⟩)
            | (go_at_call 30; (with_reducible refine (rAdd_any _ x _ hlo hg.1 hg.2).mono ?_); rintro e w' ⟨rfl, rfl⟩))
          go_round
          case rel => exact ⟨k + 1, by omega, by go_num, by rw [HS.out], HST⟩
          case measure => simp [Go.RowKit.intOf]; omega
        · rw [hh] at hst
          have HF := hide (once_pre (show onceB (b.take (k + 1)) = false from hst))
          have HV := hide (show onceV b = 0 by unfold onceV; rw [HF.out]; rfl)
          have HH := hide hh
          clear hst hh hr
          go_wp2_with (go_at_call 29; (with_reducible refine (rHas_c _ x _ hlo hx _ HH.out).mono ?_); rintro e w' ⟨rfl, rfl⟩)
          go_ret2
          exact ⟨by rw [HF.out, HV.out]; rfl, Below.refl _ _⟩
      · rw [decide_eq_false hr, Bool.false_and] at hst
        have HF := hide (once_pre hst)
        have HV := hide (show onceV b = 0 by unfold onceV; rw [HF.out]; rfl)
        clear hst
        by_cases hx1 : x < 1
        · have t1 : decide (x < 1) = true := decide_eq_true hx1
          go_wp2
          go_ret2
          exact ⟨by rw [HF.out, HV.out]; rfl, Below.refl _ _⟩
        · have t1 : decide (x < 1) = false := decide_eq_false hx1
          have t2 : decide (x > 64) = true := decide_eq_true (by omega)
          have t3 : decide (64 < x) = true := decide_eq_true (by omega)
          go_wp2
          go_ret2
          exact ⟨by rw [HF.out, HV.out]; rfl, Below.refl _ _⟩
    · have hkk : k = b.length := by omega
      subst hkk
      have hI := HI.out
      rw [List.take_length] at hI
      have HF := hide hI
      have HV := hide (show onceV b = ofF b by unfold onceV; rw [HF.out]; rfl)
      clear hI HI
      go_wp2
      go_ret2
      exact ⟨by rw [HF.out, HV.out]; rfl, Below.refl _ _⟩
end Go.Proofs.Ytggfckednjojgaa
