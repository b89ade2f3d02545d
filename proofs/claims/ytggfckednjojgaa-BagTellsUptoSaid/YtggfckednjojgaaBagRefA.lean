/- Layer bag: the document's own answer: Count, Sum, Same; the comparison of lists. -/
import Derived.Test.YtggfckednjojgaaBagRefN
namespace Go.Proofs.Ytggfckednjojgaa
open Go.RowKit

theorem rNorm_c (v : Value) (b : List Int) (w : World) (h : Ints w v b) (hb : b.length ≤ 4000000) (r : List Int) (hr : normB b = r) (n : Nat) (hn : r.length = n) :
    Calls Try.prog 18 #[v] w fun e w' => ∃ A c, e = .returned (.slice A n c) ∧ (n ≤ c ∧ c ≤ 2 ^ 63 - 1) ∧ Ints w' (.slice A n c) r ∧ Below w.heap.size w w' := by
  refine (rNorm_any v b w h hb).mono ?_
  rintro e w' ⟨v', rfl, ho, hbl⟩
  obtain ⟨A, c, rfl, h1, h2, h3⟩ := own_c hr hn ho hbl
  exact ⟨A, c, rfl, h1, h2, h3⟩
set_option maxHeartbeats 1000000 in
theorem rCount_c (v : Value) (b : List Int) (o : Int) (w : World) (h : Ints w v b) (hb : b.length ≤ 40000000000000) (k : Int) (hr : ((b.count o : Nat) : Int) = k) :
    Calls Try.prog 20 #[v, .int .i64 o] w fun e w' => e = .returned (.int .i64 k) ∧ Below w.heap.size w w' := by
  subst hr
  obtain ⟨A, c, rfl, h1, h2⟩ := sl_form h
  have HB := hide h
  clear h
  go_enter Try.func20, Try.ntmps20
  go_wp2
  go_loop [5, 6] (fun n i => ∃ k : Nat, k ≤ b.length ∧ i = .int .i64 k ∧ n = .int .i64 ((b.take k).count o : Nat)) (fun _ i => b.length - (Go.RowKit.intOf i).toNat)
  case atStart => exact ⟨0, Nat.zero_le _, rfl, rfl⟩
  case round =>
    obtain ⟨k, hk, rfl, rfl⟩ := hrel
    by_cases hlt : k < b.length
    · obtain ⟨b1, o1, rfl, -, d0⟩ := ints_at HB.out hlt
      have HS := hide (take_count_succ hlt o)
      have hle : (b.take k).count o ≤ b.length := Nat.le_trans (take_count_le b k o) List.count_le_length
      generalize b[k] = x at *
      generalize (b.take k).count o = m at *
      by_cases hx : x = o
      · have q : (x == o) = true := by simp [hx]
        have HS := hide (show (b.take (k + 1)).count o = m + 1 by rw [HS.out, if_pos hx])
        clear hx
        go_wp2
        go_round
        case rel => exact ⟨k + 1, by omega, by go_num, by rw [HS.out]; go_num⟩
        case measure => simp [Go.RowKit.intOf]; omega
      · have q : (x == o) = false := by simp [hx]
        have HS := hide (show (b.take (k + 1)).count o = m by rw [HS.out, if_neg hx]; rfl)
        clear hx
        go_wp2
        go_round
        case rel => exact ⟨k + 1, by omega, by go_num, by rw [HS.out]⟩
        case measure => simp [Go.RowKit.intOf]; omega
    · have hkk : k = b.length := by omega
      subst hkk
      go_wp2
      go_ret
      exact ⟨rfl, Below.refl _ _⟩

set_option maxHeartbeats 2000000 in
theorem ints_c (va vb : Value) (a b : List Int) (w : World) (ha : Ints w va a) (hb : Ints w vb b) (t : Bool) (ht : decide (a = b) = t) :
    Calls Try.prog 14 #[va, vb] w fun e w' => e = .returned (.bool t) ∧ Below w.heap.size w w' := by
  subst ht
  obtain ⟨A, c, rfl, h1, h2⟩ := sl_form ha
  obtain ⟨B, d, rfl, h3, h4⟩ := sl_form hb
  have HA := hide ha
  have HB := hide hb
  clear ha hb
  by_cases hn : a.length = b.length
  · have q : (((a.length : Int)) != ((b.length : Int))) = false := by rw [bne_eq_false_iff_eq]; omega
    have HN := hide hn
    clear hn
    go_enter Try.func14, Try.ntmps14
    go_wp2
    go_loopw [5] (fun i wr => ∃ k : Nat, k ≤ a.length ∧ i = .int .i64 k ∧ Below w.heap.size w wr ∧ Hid (a.take k = b.take k)) (fun i _ => a.length - (Go.RowKit.intOf i).toNat)
    case atStart => exact ⟨0, Nat.zero_le _, rfl, Below.refl _ _, hide (by simp)⟩
    case round =>
      obtain ⟨k, hk, rfl, hbw, HE⟩ := hrel
      by_cases hlt : k < a.length
      · have hlb : k < b.length := by have := HN.out; omega
        obtain ⟨b1, o1, rfl, -, c0⟩ := ints_at (HA.out.below hbw) hlt
        obtain ⟨b2, o2, rfl, -, c2⟩ := ints_at (HB.out.below hbw) hlb
        by_cases he : a[k] = b[k]
        · have e1 : (a[k] != b[k]) = false := by rw [bne_eq_false_iff_eq]; exact he
          have HE' := hide (show a.take (k + 1) = b.take (k + 1) by rw [List.take_succ_eq_append_getElem hlt, List.take_succ_eq_append_getElem hlb, HE.out, he])
          clear he
          generalize a[k] = x at *
          generalize b[k] = y at *
          go_wp2
          go_quiet (fail)
          go_wp2
          go_roundw
          case rel => exact ⟨k + 1, by omega, by go_num, bdrewN hbw _, HE'⟩
          case measure => simp [Go.RowKit.intOf]; omega
        · have e1 : (a[k] != b[k]) = true := by rw [bne_iff_ne]; exact he
          have HF := hide (show decide (a = b) = false by
            simp only [decide_eq_false_iff_not]
            intro h
            apply he
            simp [h])
          clear he
          generalize a[k] = x at *
          generalize b[k] = y at *
          go_wp2
          go_quiet (fail)
          go_wp2
          go_ret
          exact ⟨ret_bool HF.out.symm, bdrewN hbw _⟩
      · have HF := hide (show a = b by
          have h := HE.out
          have := HN.out
          rwa [List.take_of_length_le (by omega), List.take_of_length_le (by omega)] at h)
        go_wp2
        go_ret
        exact ⟨ret_bool (by rw [HF.out]; simp), hbw⟩
  · have q : (((a.length : Int)) != ((b.length : Int))) = true := by rw [bne_iff_ne]; omega
    have HN := hide (show decide (a = b) = false by simp; intro e; exact hn (by rw [e]))
    clear hn
    go_enter Try.func14, Try.ntmps14
    go_wp2
    go_ret
    exact ⟨ret_bool HN.out.symm, Below.refl _ _⟩

set_option maxHeartbeats 2000000 in
theorem rSame_c (va vb : Value) (a b : List Int) (w : World) (ha : Ints w va a) (hb : Ints w vb b) (hla : a.length ≤ 4000000) (hlb : b.length ≤ 4000000) (t : Bool) (ht : sameB a b = t) :
    Calls Try.prog 24 #[va, vb] w fun e w' => e = .returned (.bool t) ∧ Below w.heap.size w w' := by
  have ht : decide (normB a = normB b) = t := ht
  have hxl : (normB a).length = a.length := norm_len a
  have hyl : (normB b).length = b.length := norm_len b
  obtain ⟨X, hX⟩ : ∃ X, normB a = X := ⟨_, rfl⟩
  obtain ⟨Y, hY⟩ : ∃ Y, normB b = Y := ⟨_, rfl⟩
  rw [hX] at ht hxl
  rw [hY] at ht hyl
  subst ht
  have HX := hide hX
  have HY := hide hY
  have HA := hide ha
  have HB := hide hb
  clear ha hb hX hY
  obtain ⟨A0, c0, rfl, _, _⟩ := sl_form HA.out
  obtain ⟨B0, d0, rfl, _, _⟩ := sl_form HB.out
  have hxb : X.length ≤ 4000000 := by omega
  have hyb : Y.length ≤ 4000000 := by omega
  go_enter Try.func24, Try.ntmps24
  go_wp2_with fail
  (with_reducible refine (rNorm_c _ a _ HA.out hla X HX.out _ rfl).mono ?_)
  rintro e w1 ⟨A, c, rfl, ⟨h1, h2⟩, H1, hb1⟩
  have HB := hide (HB.out.below hb1)
  have H1 := hide H1
  go_wp2_with fail
  (with_reducible refine (rNorm_c _ b _ HB.out hlb Y HY.out _ rfl).mono ?_)
  rintro e w2 ⟨B, d, rfl, ⟨h3, h4⟩, H2, hb2⟩
  have HA := hide (H1.out.below hb2)
  have HB := hide H2
  have hbx := bcall hb1 hb2
  clear H1 H2
  by_cases hn : X.length = Y.length
  · have q : (((X.length : Int)) != ((Y.length : Int))) = false := by rw [bne_eq_false_iff_eq]; omega
    have HN := hide hn
    clear hn
    go_wp2
    go_loopw [7] (fun i wr => ∃ k : Nat, k ≤ X.length ∧ i = .int .i64 k ∧ Below w2.heap.size w2 wr ∧ Hid (X.take k = Y.take k)) (fun i _ => X.length - (Go.RowKit.intOf i).toNat)
    case atStart => exact ⟨0, Nat.zero_le _, rfl, Below.refl _ _, hide (by simp)⟩
    case round =>
      obtain ⟨k, hk, rfl, hbw, HE⟩ := hrel
      by_cases hlt : k < X.length
      · have hlb : k < Y.length := by have := HN.out; omega
        obtain ⟨b1, o1, rfl, -, c0⟩ := ints_at (HA.out.below hbw) hlt
        obtain ⟨b2, o2, rfl, -, c2⟩ := ints_at (HB.out.below hbw) hlb
        by_cases he : X[k] = Y[k]
        · have e1 : (X[k] != Y[k]) = false := by rw [bne_eq_false_iff_eq]; exact he
          have HE' := hide (show X.take (k + 1) = Y.take (k + 1) by rw [List.take_succ_eq_append_getElem hlt, List.take_succ_eq_append_getElem hlb, HE.out, he])
          clear he
          generalize X[k] = x at *
          generalize Y[k] = y at *
          go_wp2
          go_quiet (fail)
          go_wp2
          go_roundw
          case rel => exact ⟨k + 1, by omega, by go_num, bdrewN hbw _, HE'⟩
          case measure => simp [Go.RowKit.intOf]; omega
        · have e1 : (X[k] != Y[k]) = true := by rw [bne_iff_ne]; exact he
          have HF := hide (show decide (X = Y) = false by
            simp only [decide_eq_false_iff_not]
            intro h
            apply he
            simp [h])
          clear he
          generalize X[k] = x at *
          generalize Y[k] = y at *
          go_wp2
          go_quiet (fail)
          go_wp2
          go_ret
          exact ⟨ret_bool HF.out.symm, bcall hbx (bdrewN hbw _)⟩
      · have HF := hide (show X = Y by
          have h := HE.out
          have := HN.out
          rwa [List.take_of_length_le (by omega), List.take_of_length_le (by omega)] at h)
        go_wp2
        go_ret
        exact ⟨ret_bool (by rw [HF.out]; simp), bcall hbx hbw⟩
  · have q : (((X.length : Int)) != ((Y.length : Int))) = true := by rw [bne_iff_ne]; omega
    have HN := hide (show decide (X = Y) = false by simp; intro e; exact hn (by rw [e]))
    clear hn
    go_wp2
    go_ret
    exact ⟨ret_bool HN.out.symm, hbx⟩

set_option maxHeartbeats 1000000 in
theorem rSum_c (v u : Value) (a b : List Int) (w : World) (h : Ints w v a) (h' : Ints w u b) (hb : a.length + b.length ≤ 4000000) (r : List Int) (hr : sumB a b = r) (m : Nat) (hm : r.length = m) :
    Calls Try.prog 22 #[v, u] w fun e w' => ∃ A c, e = .returned (.slice A m c) ∧ (m ≤ c ∧ c ≤ 2 ^ 63 - 1) ∧ Ints w' (.slice A m c) r ∧ Below w.heap.size w w' := by
  obtain ⟨i0, hi, hz0, hz1, hz2⟩ := info_parts infoI
  have hmem : ∀ (p : Int), ∀ u ∈ ic p, u.oneCell' = true := fun p u hu => by simp [ic] at hu; subst hu; rfl
  obtain ⟨A, c, rfl, h1, h2⟩ := sl_form h
  obtain ⟨B, d, rfl, h3, h4⟩ := sl_form h'
  have HA := hide h
  have HB := hide h'
  have HM := hide hmem
  clear h h' hmem
  go_enter Try.func22, Try.ntmps22
  go_wp2_with (at_builtin; refine wpList_append_sl _ rfl _ _ 22 rfl w.heap.size 3 i0 (.int .i64 0) 1 8 Try.underlying22 hi hz0 hz1 hz2 rfl (by decide) _ 0 [] rfl (World.ownsRow_nil _ _ _ _) _ a rfl HA.out ic_len HM.out (by unfold maxLen; omega) (by omega) (Nat.le_refl _) ?_)
  intro v1 w1 ho1 hb1
  have HB := hide (HB.out.below hb1)
  have ho1 : w1.ownsRow w.heap.size 3 1 v1 a.length (a.flatMap ic) := by simpa using ho1
  obtain ⟨A1, c1, rfl, h5, h6⟩ := own_form ho1
  go_wp2_with (at_builtin; refine wpList_append_sl _ rfl _ _ 22 rfl w.heap.size 3 i0 (.int .i64 0) 1 8 Try.underlying22 hi hz0 hz1 hz2 rfl (by decide) _ _ _ rfl ho1 _ b rfl HB.out ic_len HM.out (by unfold maxLen; omega) (by omega) hb1.size ?_)
  intro v2 w2 ho2 hb2
  have ho2 : w2.ownsRow w.heap.size 3 1 v2 (a ++ b).length ((a ++ b).flatMap ic) := by rw [List.flatMap_append, List.length_append]; exact ho2
  obtain ⟨A2, c2, rfl, ⟨h7, h8⟩, H2, -⟩ := own_c (w := w2) (n := a.length + b.length) rfl (by rw [List.length_append]) ho2 (Below.refl _ _)
  have H2 := hide H2
  clear ho1 ho2
  have hrr := hide (show normB (a ++ b) = r by unfold sumB at hr; exact hr)
  have hl2 : (a ++ b).length ≤ 4000000 := by rw [List.length_append]; exact hb
  go_wp2_with fail
  (with_reducible refine (rNorm_c _ (a ++ b) _ H2.out hl2 r (hrr.out) m hm).mono ?_)
  rintro e w3 ⟨A3, c3, rfl, q3, H3, hb3⟩
  go_wp2
  go_ret
  exact ⟨A3, c3, rfl, q3, H3, (hb1.trans hb2).trans (hb3.mono (hb1.trans hb2).size)⟩
end Go.Proofs.Ytggfckednjojgaa
