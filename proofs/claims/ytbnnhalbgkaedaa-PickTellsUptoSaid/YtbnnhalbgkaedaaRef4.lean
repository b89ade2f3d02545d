/- Layer pick: the document's own answer: Round, Fair; samePicks. -/
import Derived.Test.YtbnnhalbgkaedaaRef3
namespace Go.Proofs.Ytbnnhalbgkaedaa
open Go.RowKit Go.Proofs.Ytbnnhalbgkaedaa.lawFair

set_option maxRecDepth 100000 in
set_option maxHeartbeats 4000000 in
theorem rRound_any (n m : Int) (w : World) (hn0 : -9223372036854775808 ≤ n) (hm0 : -9223372036854775808 ≤ m) :
    Calls Try.prog 24 #[.int .i64 n, .int .i64 m] w fun e w' => ∃ v, e = .returned v ∧ w'.ownsRow w.heap.size 34 2 v (roundL n m).length ((roundL n m).flatMap pc) ∧ Below w.heap.size w w' := by
  obtain ⟨i0, hi, hz0, hz1, hz2⟩ := info_parts info34
  have hn16 := upto16_le n
  have hm16 := upto16_le m
  have hown0 := own_new w w.heap.size (pc (0, 0)) 34 2 1 (Nat.le_refl _) rfl (by simp [maxLen])
  have hb0 : Below w.heap.size w (w.alloc (.cells (pc (0, 0)).toArray 34)) := (Below.refl _ _).alloc (Nat.le_refl _) _
  go_enter Try.func24, Try.ntmps24
  go_wp2
  go_loopw [5, 6] (fun v i wr => ∃ k : Nat, k ≤ upto16 n ∧ i = .int .i64 ((k : Int) + 1) ∧ wr.ownsRow w.heap.size 34 2 v (1 + k) ((rnd k 0).flatMap pc) ∧ Below w.heap.size w wr) (fun _ i _ => 18 - (intOf i).toNat)
  case atStart => exact ⟨0, Nat.zero_le _, rfl, hown0, hb0⟩
  case round =>
    obtain ⟨k, hk, rfl, hown, hb⟩ := hrel
    by_cases hlt : k < upto16 n
    · have hx : (k : Int) + 1 ≤ n ∧ (k : Int) + 1 ≤ 16 := by unfold upto16 at hlt; omega
      obtain ⟨hx1, hx2⟩ := hx
      go_wp2_with (at_builtin; refine wpList_append_own _ rfl _ _ 27 rfl w.heap.size 34 i0 (.agg #[.int .i64 0, .int .i64 0]) 2 16 Try.underlying27 hi hz0 hz1 hz2 rfl (by decide) _ _ _ rfl (hown.alloc _) ⟨_, 0, none⟩ 1 1 [.int .i64 1, .int .i64 ((k : Int) + 1)] rfl rfl (row_at _ _ _ (by simp)) (by simp [Value.oneCell']) (by simp only [maxLen]; omega) (by omega) (by have := hb.size; simp; omega) ?_; intro v' w1 hown' hgrow _)
      go_roundw
      case rel => exact ⟨k + 1, by omega, by go_num, by rw [rnd_1]; exact hown', (hb.alloc hb.size _).grown hgrow (by have := hb.size; simp; omega) (own_ge hown)⟩
      case measure => simp [intOf]; omega
    · obtain rfl : k = upto16 n := by omega
      have hx : n < (upto16 n : Int) + 1 ∨ ((upto16 n : Int) + 1 ≤ n ∧ (16 : Int) < (upto16 n : Int) + 1) := by unfold upto16; omega
      have HO := hide hown
      clear hown
      rcases hx with hx | ⟨hx, hx2⟩
      all_goals
        go_wp2
        go_loopw [5, 7] (fun v i wr => ∃ k : Nat, k ≤ upto16 m ∧ i = .int .i64 ((k : Int) + 1) ∧ wr.ownsRow w.heap.size 34 2 v (1 + upto16 n + k) ((rnd (upto16 n) k).flatMap pc) ∧ Below w.heap.size w wr) (fun _ i _ => 18 - (intOf i).toNat)
        case atStart => exact ⟨0, Nat.zero_le _, rfl, HO.out, hb⟩
        case round =>
          obtain ⟨k, hk, rfl, hown, hb⟩ := hrel
          by_cases hlt : k < upto16 m
          · have hy : (k : Int) + 1 ≤ m ∧ (k : Int) + 1 ≤ 16 := by unfold upto16 at hlt; omega
            obtain ⟨hy1, hy2⟩ := hy
            go_wp2_with (at_builtin; refine wpList_append_own _ rfl _ _ 27 rfl w.heap.size 34 i0 (.agg #[.int .i64 0, .int .i64 0]) 2 16 Try.underlying27 hi hz0 hz1 hz2 rfl (by decide) _ _ _ rfl (hown.alloc _) ⟨_, 0, none⟩ 1 1 [.int .i64 2, .int .i64 ((k : Int) + 1)] rfl rfl (row_at _ _ _ (by simp)) (by simp [Value.oneCell']) (by simp only [maxLen]; omega) (by omega) (by have := hb.size; simp; omega) ?_; intro v' w1 hown' hgrow _)
            go_roundw
            case rel => exact ⟨k + 1, by omega, by go_num, by rw [rnd_2]; exact hown', (hb.alloc hb.size _).grown hgrow (by have := hb.size; simp; omega) (own_ge hown)⟩
            case measure => simp [intOf]; omega
          · obtain rfl : k = upto16 m := by omega
            have hy : m < (upto16 m : Int) + 1 ∨ ((upto16 m : Int) + 1 ≤ m ∧ (16 : Int) < (upto16 m : Int) + 1) := by unfold upto16; omega
            have HO2 := hide (show wr.ownsRow w.heap.size 34 2 _ (roundL n m).length ((roundL n m).flatMap pc) from by rw [show roundL n m = rnd (upto16 n) (upto16 m) from rfl, rnd_len]; exact hown)
            clear hown
            rcases hy with hy | ⟨hy, hy2⟩
            all_goals
              go_wp2
              go_returns
              exact ⟨_, rfl, HO2.out, hb⟩

theorem rfair_yes {l : List PP} {n m : Int} {K : Nat} (hK : 1 ≤ K) (h : ∀ i, i + K ≤ l.length → allL ((l.drop i).take K) n m = true) : fairF l n m K = true := by
  rw [fair_iff]
  refine ⟨by omega, ?_⟩
  by_cases hs : (l.length : Int) < K
  · exact .inl hs
  · have h0 := h 0 (by omega)
    unfold allL at h0
    simp only [Bool.and_eq_true, decide_eq_true_eq] at h0
    refine .inr ⟨h0.1.1, h0.1.2, fun i hi p hp => ?_⟩
    rw [Int.toNat_natCast] at hi ⊢
    have := h i hi
    unfold allL at this
    simp only [Bool.and_eq_true] at this
    simpa using List.all_eq_true.1 this.2 p hp
theorem rfair_no {l : List PP} {n m : Int} {K i : Nat} (hK : 1 ≤ K) (hi : i + K ≤ l.length) (h : allL ((l.drop i).take K) n m = false) : fairF l n m K = false := by
  rw [← Bool.not_eq_true]
  intro hf
  rw [fair_iff] at hf
  rcases hf.2 with h2 | ⟨h1, h2, h3⟩
  · omega
  · have : allL ((l.drop i).take K) n m = true := by
      unfold allL
      simp only [h1, h2, decide_true, Bool.true_and]
      refine List.all_eq_true.2 fun p hp => ?_
      have := h3 i (by rw [Int.toNat_natCast]; exact hi) p hp
      rw [Int.toNat_natCast] at this
      simpa using this
    rw [h] at this; cases this

set_option maxRecDepth 100000 in
set_option maxHeartbeats 4000000 in
theorem rFair_any (v : Value) (l : List PP) (n m k : Int) (w : World) (hl : Picks w v l) (hlen : l.length ≤ 8796093022208)
    (hn0 : -9223372036854775808 ≤ n) (hm0 : -9223372036854775808 ≤ m) (hk0 : -9223372036854775808 ≤ k) (hk1 : k ≤ 9223372036854775807) :
    Calls Try.prog 22 #[v, .int .i64 n, .int .i64 m, .int .i64 k] w fun e w' => e = .returned (.bool (fairF l n m k)) ∧ Below w.heap.size w w' := by
  have hl' := hl
  obtain ⟨A, c, rfl, h1, h2, -⟩ := hl'
  unfold maxLen at h2
  have HL := hide hl
  clear hl
  by_cases hk : k < 1
  · have HF := hide (fair_small l n m k hk)
    go_enter Try.func22, Try.ntmps22
    go_wp2
    go_ret
    exact ⟨ret_bool HF.out.symm, Below.refl _ _⟩
  obtain ⟨K, rfl⟩ : ∃ K : Nat, k = K := ⟨k.toNat, by omega⟩
  go_enter Try.func22, Try.ntmps22
  go_wp2
  go_loopw [9] (fun i wr => ∃ j : Nat, j ≤ l.length + 1 ∧ i = .int .i64 j ∧ Below w.heap.size w wr ∧ Hid (∀ i, i < j → i + K ≤ l.length → allL ((l.drop i).take K) n m = true)) (fun i _ => l.length + 1 - (intOf i).toNat)
  case atStart => exact ⟨0, Nat.zero_le _, rfl, Below.refl _ _, hide (fun i hi => absurd hi (by omega))⟩
  case round =>
    obtain ⟨j, hj, rfl, hb, HE⟩ := hrel
    by_cases hlt : j + K ≤ l.length
    · have g1 : (K : Int) ≤ (l.length : Int) := by omega
      have g2 : (j : Int) ≤ (l.length : Int) - (K : Int) := by omega
      have hsub := hide (sl_sub (i := j) (j := j + K) (HL.out.below hb) (by omega) hlt)
      rw [show j + K - j = K by omega] at hsub
      cases hA : allL ((l.drop j).take K) n m
      · have HF := hide (rfair_no (by omega) hlt hA)
        have HA := hide hA
        clear hA
        go_wp2_with fail
        (with_reducible refine (all_any _ ((l.drop j).take K) _ _ _ hsub.out hn0 hm0).mono ?_)
        rintro e w2 ⟨rfl, hb2⟩
        rw [HA.out]
        go_wp2
        go_ret
        exact ⟨ret_bool HF.out.symm, bcall hb hb2⟩
      · have HA := hide hA
        have HN := hide (show ∀ i, i < j + 1 → i + K ≤ l.length → allL ((l.drop i).take K) n m = true from fun i h1 h2 => by
          by_cases hi : i = j
          · rw [hi]; exact hA
          · exact HE.out i (by omega) h2)
        clear hA
        go_wp2_with fail
        (with_reducible refine (all_any _ ((l.drop j).take K) _ _ _ hsub.out hn0 hm0).mono ?_)
        rintro e w2 ⟨rfl, hb2⟩
        rw [HA.out]
        go_wp2
        go_roundw
        case rel => exact ⟨j + 1, by omega, by go_num, bcall hb hb2, HN⟩
        case measure => simp [intOf]; omega
    · have HF := hide (rfair_yes (l := l) (n := n) (m := m) (K := K) (by omega) (fun i hi => HE.out i (by omega) hi))
      have g : (l.length : Int) < K ∨ ((K : Int) ≤ (l.length : Int) ∧ (l.length : Int) - (K : Int) < j) := by omega
      rcases g with g | ⟨g, g2⟩
      all_goals
        go_wp2
        go_ret
        exact ⟨ret_bool HF.out.symm, hb⟩

set_option maxRecDepth 100000 in
set_option maxHeartbeats 4000000 in
theorem samePicks_any (va vb : Value) (a b : List PP) (w : World) (ha : Picks w va a) (hb : Picks w vb b) (hlen : a.length ≤ 8796093022208) :
    Calls Try.prog 16 #[va, vb] w fun e w' => e = .returned (.bool (decide (a = b))) ∧ Below w.heap.size w w' := by
  have hb' := hb
  obtain ⟨B, d, rfl, h3, h4, -⟩ := hb'
  unfold maxLen at h4
  have HA := hide ha
  have HB := hide hb
  clear ha hb
  by_cases hn : a.length = b.length
  · have q : (((a.length : Int)) != ((b.length : Int))) = false := by rw [bne_eq_false_iff_eq]; omega
    have HN := hide hn
    clear hn
    go_enter Try.func16, Try.ntmps16
    go_wp2_with fail
    (with_reducible refine (refPicks_any _ a _ HA.out hlen).mono ?_)
    rintro e w1 ⟨v1, rfl, ho1, hb1⟩
    have HA := hide (show Picks w1 v1 a from Sl.of_own pc_len ho1)
    obtain ⟨A, c, rfl, hc1, hc2⟩ := own_form ho1
    clear ho1
    have HB := hide (HB.out.below hb1)
    go_wp2
    go_loopw [6] (fun i wr => ∃ k : Nat, k ≤ a.length ∧ i = .int .i64 k ∧ Below w1.heap.size w1 wr ∧ Hid (a.take k = b.take k)) (fun i _ => a.length - (intOf i).toNat)
    case atStart => exact ⟨0, Nat.zero_le _, rfl, Below.refl _ _, hide (by simp)⟩
    case round =>
      obtain ⟨k, hk, rfl, hbw, HE⟩ := hrel
      by_cases hlt : k < a.length
      · have hlb : k < b.length := by have := HN.out; omega
        obtain ⟨b1, o1, rfl, _, c0, c1⟩ := picks_at (HA.out.below hbw) hlt
        obtain ⟨b2, o2, rfl, _, c2, c3⟩ := picks_at (HB.out.below hbw) hlb
        have hnp := neq_ref (a[k]).1 (a[k]).2 (b[k]).1 (b[k]).2
        by_cases he : a[k] = b[k]
        · have e1 : ((a[k]).1 == (b[k]).1 && (a[k]).2 == (b[k]).2) = true := by rw [he]; simp
          rw [e1] at hnp
          have HE' := hide (show a.take (k + 1) = b.take (k + 1) by rw [List.take_succ_eq_append_getElem hlt, List.take_succ_eq_append_getElem hlb, HE.out, he])
          clear e1 he
          go_wp2
          go_quiet (fail)
          go_wp2
          go_roundw
          case rel => exact ⟨k + 1, by omega, by go_num, bdrewN hbw _, HE'⟩
          case measure => simp [intOf]; omega
        · have e1 : ((a[k]).1 == (b[k]).1 && (a[k]).2 == (b[k]).2) = false := by
            rw [← Bool.not_eq_true]; intro h
            simp only [Bool.and_eq_true, beq_iff_eq] at h
            exact he (Prod.ext h.1 h.2)
          rw [e1] at hnp
          have HF := hide (show decide (a = b) = false by
            simp only [decide_eq_false_iff_not]
            intro h
            apply he
            simp [h])
          clear e1 he
          go_wp2
          go_quiet (fail)
          go_wp2
          go_ret
          exact ⟨ret_bool HF.out.symm, bcall hb1 (bdrewN hbw _)⟩
      · have HF := hide (show a = b by
          have h := HE.out
          have := HN.out
          rwa [List.take_of_length_le (by omega), List.take_of_length_le (by omega)] at h)
        go_wp2
        go_ret
        exact ⟨ret_bool (by rw [HF.out]; simp), bcall hb1 hbw⟩
  · have q : (((a.length : Int)) != ((b.length : Int))) = true := by rw [bne_iff_ne]; omega
    have HN := hide (show decide (a = b) = false by simp; intro e; exact hn (by rw [e]))
    clear hn
    go_enter Try.func16, Try.ntmps16
    go_wp2_with fail
    (with_reducible refine (refPicks_any _ a _ HA.out hlen).mono ?_)
    rintro e w1 ⟨v1, rfl, ho1, hb1⟩
    obtain ⟨A, c, rfl, hc1, hc2⟩ := own_form ho1
    clear ho1
    go_wp2
    go_ret
    exact ⟨ret_bool HN.out.symm, hb1⟩
end Go.Proofs.Ytbnnhalbgkaedaa
