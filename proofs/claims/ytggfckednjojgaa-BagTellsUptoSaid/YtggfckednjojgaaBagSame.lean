/- Layer bag: slices.Equal on bags, Same. -/
import Derived.Test.YtggfckednjojgaaBagOps
namespace Go.Proofs.Ytggfckednjojgaa
open Go.RowKit

theorem own_ints {base : Nat} {w : World} {v : Value} {l : List Int} (h : w.ownsRow base 3 1 v l.length (l.flatMap ic)) : Ints w v l := Sl.of_own ic_len h
set_option maxHeartbeats 2000000 in
theorem Equal_ints (va vb : Value) (a b : List Int) (w : World) (ha : Ints w va a) (hb : Ints w vb b) :
    Calls Try.prog 31 #[va, vb] w fun e w' => e = .returned (.bool (decide (a = b))) ∧ Below w.heap.size w w' := by
  obtain ⟨A, c, rfl, h1, h2⟩ := sl_form ha
  obtain ⟨B, d, rfl, h3, h4⟩ := sl_form hb
  have HA := hide ha
  have HB := hide hb
  clear ha hb
  by_cases hn : a.length = b.length
  · have q : (((a.length : Int)) != ((b.length : Int))) = false := by rw [bne_eq_false_iff_eq]; omega
    have HN := hide hn
    clear hn
    go_enter Try.func31, Try.ntmps31
    go_wp2
    go_loopw [13] (fun i wr => ∃ k : Nat, k ≤ a.length ∧ i = .int .i64 k ∧ Below w.heap.size w wr ∧ Hid (a.take k = b.take k)) (fun i _ => a.length - (Go.RowKit.intOf i).toNat)
    case atStart => exact ⟨0, Nat.zero_le _, rfl, Below.refl _ _, hide (by simp)⟩
    case round =>
      obtain ⟨k, hk, rfl, hbw, HE⟩ := hrel
      by_cases hlt : k < a.length
      · have hlb : k < b.length := by have := HN.out; omega
        obtain ⟨b1, o1, rfl, -, c0⟩ := ints_at (HA.out.below hbw) hlt
        obtain ⟨b2, o2, rfl, -, c2⟩ := ints_at (HB.out.below hbw) hlb
        by_cases he : a[k] = b[k]
        · have e1 : (a[k] != b[k]) = false := by rw [bne_eq_false_iff_eq]; exact he
          have HE' := hide (show a.take (k + 1) = b.take (k + 1) by rw [List.take_succ_eq_append_getElem hlt, List.take_succ_eq_append_getElem hlb, HE.out, he])
          clear he
          generalize a[k] = x at *
          generalize b[k] = y at *
          go_wp2
          go_quiet (fail)
          go_wp2
          go_roundw
          case rel => exact ⟨k + 1, by omega, by go_num, bdrewN hbw _, HE'⟩
          case measure => simp [Go.RowKit.intOf]; omega
        · have e1 : (a[k] != b[k]) = true := by rw [bne_iff_ne]; exact he
          have HF := hide (show decide (a = b) = false by
            simp only [decide_eq_false_iff_not]
            intro h
            apply he
            simp [h])
          clear he
          generalize a[k] = x at *
          generalize b[k] = y at *
          go_wp2
          go_quiet (fail)
          go_wp2
          go_ret
          exact ⟨ret_bool HF.out.symm, bdrewN hbw _⟩
      · have HF := hide (show a = b by
          have h := HE.out
          have := HN.out
          rwa [List.take_of_length_le (by omega), List.take_of_length_le (by omega)] at h)
        go_wp2
        go_ret
        exact ⟨ret_bool (by rw [HF.out]; simp), hbw⟩
  · have q : (((a.length : Int)) != ((b.length : Int))) = true := by rw [bne_iff_ne]; omega
    have HN := hide (show decide (a = b) = false by simp; intro e; exact hn (by rw [e]))
    clear hn
    go_enter Try.func31, Try.ntmps31
    go_wp2
    go_ret
    exact ⟨ret_bool HN.out.symm, Below.refl _ _⟩
theorem bSame_any (va vb : Value) (a b : List Int) (w : World) (ha : Ints w va a) (hb : Ints w vb b) (hka : AllK a) (hkb : AllK b) (hla : a.length ≤ 17592186044416) (hlb : b.length ≤ 17592186044416) :
    Calls Try.prog 23 #[va, vb] w fun e w' => e = .returned (.bool (sameB a b)) ∧ Below w.heap.size w w' := by
  have HA := hide ha
  have HB := hide hb
  obtain ⟨A, c, rfl, h1, h2⟩ := sl_form ha
  obtain ⟨B, d, rfl, h3, h4⟩ := sl_form hb
  clear ha hb
  go_enter Try.func23, Try.ntmps23
  go_wp2_with fail
  refine (bNorm_any _ a _ HA.out hka hla).mono ?_
  rintro e w1 ⟨v1, rfl, ho1, hb1⟩
  have H1 := hide (own_ints ho1)
  have HB := hide (HB.out.below hb1)
  clear ho1
  go_wp2_with fail
  refine (bNorm_any _ b _ HB.out hkb hlb).mono ?_
  rintro e w2 ⟨v2, rfl, ho2, hb2⟩
  have H2 := hide (own_ints ho2)
  have H1 := hide (H1.out.below hb2)
  clear ho2
  go_wp2_with fail
  refine (Equal_ints _ _ _ _ _ H1.out H2.out).mono ?_
  rintro e w3 ⟨rfl, hb3⟩
  go_wp2
  go_ret
  exact ⟨rfl, bcall (bcall hb1 hb2) hb3⟩
end Go.Proofs.Ytggfckednjojgaa
