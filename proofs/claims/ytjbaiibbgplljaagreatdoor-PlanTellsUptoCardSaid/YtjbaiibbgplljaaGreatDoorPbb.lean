import Derived.Laws.IdiomStrings
import Derived.Test.YtjbaiibbgplljaaGreatDoorPaz
import Derived.Test.YtjbaiibbgplljaaGreatDoorPaz
set_option maxRecDepth 100000
set_option maxHeartbeats 40000000
namespace Go.Proofs.YtjbaiibbgplljaaGreatDoor
open Go.RowKit Go.Shelf Go.Proofs
theorem rconv1 (w : World) (x : Int) (h0 : 0 ≤ x) (h1 : x ≤ 255) :
 (convert 31 9 (.slice (some ⟨w.heap.size, 0, none⟩) 1 1)).run Tryz.prog (w.alloc (.cells #[.int .u8 x] 5)) = .ok (.string ⟨[x.toNat.toUInt8].toArray⟩) (w.alloc (.cells #[.int .u8 x] 5)) := by
 refine run_convert_bytes_back (w.alloc (.cells #[.int .u8 x] 5)) 31 9 5 ⟨w.heap.size, 0, none⟩ 1 [x.toNat.toUInt8] Tryz.underlying31 Tryz.underlying5 Tryz.underlying9 fun j hj => ?_
 obtain rfl : j = 0 := by simpa using hj
 rw [row_new w [.int .u8 x] 5 0 _ rfl]; simp; omega
theorem ret_textSt {s : ByteArray} {l : List UInt8} (h : s = ⟨l.toArray⟩) : Ending.returned (.string s) = .returned (.string ⟨l.toArray⟩) := by rw [h]
theorem dig_small (n : Nat) (h : n < 10) : dig n = [(48 + (n : Int)).toNat.toUInt8] := by
 unfold dig; rw [if_pos (by omega), show (48 + (n : Int)).toNat = 48 + ((n : Int)).toNat by omega]
theorem dig_big (n : Nat) (h : 10 ≤ n) : dig n = [(48 + ((n / 10 : Nat) : Int)).toNat.toUInt8, (48 + (n : Int) % 10).toNat.toUInt8] := by
 unfold dig; rw [if_neg (by omega), show (48 + ((n / 10 : Nat) : Int)).toNat = 48 + ((n : Int)).toNat / 10 by omega, show (48 + (n : Int) % 10).toNat = 48 + ((n : Int)).toNat % 10 by omega]
theorem rDigits_any (n : Nat) (w : World) (h : n < 100) :
 Calls Tryz.prog 104 #[.int .u64 n] w fun e w' => e = .returned (.string ⟨(dig n).toArray⟩) ∧ Below w.heap.size w w' := by
 have D1 := hide (dig_small n); have D2 := hide (dig_big n); obtain ⟨c1, hc1⟩ : ∃ c : UInt8, (48 + (n : Int) % 10).toNat.toUInt8 = c := ⟨_, rfl⟩; obtain ⟨c2, hc2⟩ : ∃ c : UInt8, (48 + (n : Int)).toNat.toUInt8 = c := ⟨_, rfl⟩; obtain ⟨c3, hc3⟩ : ∃ c : UInt8, (48 + ((n / 10 : Nat) : Int)).toNat.toUInt8 = c := ⟨_, rfl⟩; rw [hc1, hc3] at D2; rw [hc2] at D1; have HC := hide hc1; have HC2 := hide hc2; have HC3 := hide hc3; clear hc1 hc2 hc3; go_enter Tryz.func104, Tryz.ntmps104
 go_wp2; go_loopw [0, 3] (fun v t wr => ∃ m : Nat, ((m = n ∧ t = .string ⟨#[]⟩) ∨ (10 ≤ n ∧ m = n / 10 ∧ t = .string ⟨#[c1]⟩)) ∧ v = .int .u64 m ∧ Below w.heap.size w wr) (fun v _ _ => (intOf v).toNat)
 case atStart => exact ⟨n, .inl ⟨rfl, rfl⟩, rfl, Below.refl _ _⟩
 case round =>
  obtain ⟨m, hm, rfl, hb⟩ := hrel; have hsz := hb.size; rcases hm with ⟨rfl, rfl⟩ | ⟨h10, rfl, rfl⟩
  · by_cases h9 : 10 ≤ m
    · have hcv := rconv1 wr (48 + (m : Int) % 10) (by omega) (by omega)
      rw [HC.out] at hcv; have hge : decide ((m : Int) > 9) = true := decide_eq_true (by omega); go_wp2; go_roundw
      case rel => exact ⟨m / 10, .inr ⟨h9, rfl, rfl⟩, by go_num, hb.alloc hsz _⟩
      case measure => simp [intOf]; omega
    · have hd := hide (D1.out (by omega))
      have hcv := rconv1 wr (48 + (m : Int)) (by omega) (by omega); rw [HC2.out] at hcv; have hge : decide ((m : Int) > 9) = false := decide_eq_false (by omega); go_wp2; go_ret
      exact ⟨ret_textSt (by rw [hd.out]; rfl), hb.alloc hsz _⟩
  · have hd := hide (D2.out h10)
    have hcv := rconv1 wr (48 + ((n / 10 : Nat) : Int)) (by omega) (by omega); rw [HC3.out] at hcv; have hge : decide (((n / 10 : Nat) : Int) > 9) = false := decide_eq_false (by omega); have hq : n / 10 ≤ 9 := by omega
    generalize n / 10 = q at *; go_wp2; go_ret
    exact ⟨ret_textSt (by rw [hd.out]; rfl), hb.alloc hsz _⟩
theorem rText_anySt (s : Nat) (w : World) (hs : s < 18446744073709551616) :
 Calls Tryz.prog 67 #[.int .u64 s] w fun e w' => e = .returned (.string ⟨(textF s).toArray⟩) ∧ Below w.heap.size w w' := by
 have hol := objs_len s; have hrg : ∀ o ∈ objs s, 1 ≤ o ∧ o ≤ 64 := fun o ho => objs_rng ho
 have h0 : objs s = [] → textF s = [45] := fun h => by
  unfold textF; split
  · rfl
  · rename_i hz; exact absurd h (objs_ne hz hs)
 have h1 : objs s ≠ [] → textF s = textL (objs s) := fun h => by
  unfold textF; rw [if_neg]; intro hz; subst hz; exact h objs_zero
 obtain ⟨X, hX⟩ : ∃ X, objs s = X := ⟨_, rfl⟩; rw [hX] at hol hrg h0 h1; have HX := hide hX; have HRG := hide hrg; have H0 := hide h0; have H1 := hide h1; clear hX hrg h0 h1; go_enter Tryz.func67, Tryz.ntmps67
 go_wp2_with fail
 (with_reducible refine (rList_any s _ hs).mono ?_); rintro e w1 ⟨v, rfl, ho, hb1⟩; rw [HX.out] at ho; have hI := hide (show Ints w1 v X from Sl.of_own ic_len ho); obtain ⟨A, cp, rfl, hcp, hcm⟩ := own_form ho; clear ho; go_wp2; go_loopw [4, 5] (fun t i wr => ∃ k : Nat, k ≤ X.length ∧ i = .int .i64 k ∧ t = .string ⟨(textL (X.take k)).toArray⟩ ∧ Below w1.heap.size w1 wr) (fun _ i _ => X.length - (intOf i).toNat)
 case atStart => exact ⟨0, Nat.zero_le _, rfl, rfl, Below.refl _ _⟩
 case round =>
  obtain ⟨k, hk, rfl, rfl, hb⟩ := hrel; have hpl : (textL (X.take k)).length ≤ 192 := by have := text_le (X.take k); rw [List.length_take] at this; omega
  by_cases hlt : k < X.length
  · obtain ⟨b, off, rfl, -, hc⟩ := ints_at (hI.out.below hb) hlt
    have hr := HRG.out _ (List.getElem_mem hlt); have hst : textL (X.take (k + 1)) = txStep (textL (X.take k)) X[k] := by rw [List.take_succ_eq_append_getElem hlt, textL_snoc]
    have hne : textL (X.take k) = [] ↔ k = 0 := by
     rw [textL_nil, List.take_eq_nil_iff]; constructor
     · rintro (h | h)
       · exact h
       · rw [h] at hlt; simp at hlt
     · exact .inl
    generalize X[k] = x at *; obtain ⟨m, rfl⟩ : ∃ m : Nat, x = m := ⟨x.toNat, by omega⟩; have hdl : (dig (m : Int)).length ≤ 2 := by rw [dig_len]; split <;> omega
    by_cases hk0 : k = 0
    · subst hk0
      have ht0 := hne.2 rfl; rw [ht0] at hst; have HS := hide (show textL (X.take (0 + 1)) = [] ++ dig (m : Int) by rw [hst, txStep, if_pos rfl]); rw [ht0]; rw [Nat.add_zero] at hc; clear hst hne ht0; go_wp2_with fail
      (with_reducible refine (rDigits_any m _ (by omega)).mono ?_); rintro e w2 ⟨rfl, hb2⟩; obtain ⟨hc2, hf2⟩ := bcell hb2; go_wp2; go_roundw
      case rel => exact ⟨1, by omega, rfl, by rw [HS.out]; exact congrArg Value.string (ba_append [] _), bcall hb hb2⟩
      case measure => simp [intOf]; omega
    · have hne0 : textL (X.take k) ≠ [] := fun h => hk0 (hne.1 h)
      have HS := hide (show textL (X.take (k + 1)) = (textL (X.take k) ++ [44]) ++ dig (m : Int) by rw [hst, txStep, if_neg hne0]); have q : 0 < k := by omega
      clear hst hne hne0 hk0; go_wp2_with fail
      (with_reducible refine (rDigits_any m _ (by omega)).mono ?_); rintro e w2 ⟨rfl, hb2⟩; obtain ⟨hc2, hf2⟩ := bcell hb2; go_wp2; go_roundw
      case rel => exact ⟨k + 1, by omega, by go_num, by rw [HS.out, ← ba_append, ← ba_append], bcall hb hb2⟩
      case measure => simp [intOf]; omega
  · have hXk : X.take k = X := List.take_of_length_le (by omega)
    by_cases hX0 : X = []
    · have ht : textL (X.take k) = [] := by rw [hXk, hX0]; rfl
      have HT := hide (H0.out hX0); rw [ht]; clear ht hXk hX0 hpl; go_wp2; go_ret
      exact ⟨ret_textSt (by rw [HT.out]), bcall hb1 hb⟩
    · have HT := hide (show textF s = textL (X.take k) by rw [hXk]; exact H1.out hX0)
      obtain ⟨T, hT⟩ : ∃ T : ByteArray, (⟨(textL (X.take k)).toArray⟩ : ByteArray) = T := ⟨_, rfl⟩; have hne : textL (X.take k) ≠ [] := by rw [hXk, Ne, textL_nil]; exact hX0
      have q1 : (T.toList == []) = false := by rw [beq_eq_false_iff_ne, ← hT, ba_toList]; exact hne
      have q2 : T.toList.isEmpty = false := by rw [← hT, ba_toList]; simpa using hne
      rw [hT]; have HTT := hide hT; clear hXk hX0 hpl hne hT; go_wp2; go_ret
      exact ⟨ret_textSt (by rw [HT.out, HTT.out]), bcall hb1 hb⟩
theorem rParse_anySt (t : ByteArray) (w : World) (ht : t.size ≤ 9223372036854775806) :
 Calls Tryz.prog 30 #[.string t] w fun e w' => e = .returned (.tuple #[.int .u64 ((rParseF t.data.toList).1 : Nat), .int .i64 (rParseF t.data.toList).2]) ∧ Below w.heap.size w w' := by
 have htl : t.data.toList.length = t.size := by rw [Array.length_toList]; rfl
 obtain ⟨R, hR⟩ : ∃ R, rAcc t.data.toList 0 0 = R := ⟨_, rfl⟩; have lR : R < 18446744073709551616 := by rw [← hR]; exact rAcc_lt _ _ _ (by decide)
 have HR := hide hR; have hP := hide (show rParseF t.data.toList = if textF R = t.data.toList then (R, 0) else (0, 2) by rw [← hR]; rfl); obtain ⟨sb, hsb, hsr⟩ : ∃ sb : Nat → Int, (∀ n (h : n < t.size), ((t[n]'h).toNat : Int) = sb n) ∧ ∀ n, 0 ≤ sb n ∧ sb n ≤ 255 := by
  refine ⟨fun n => if h : n < t.size then ((t[n]'h).toNat : Int) else 0, fun n h => by simp [h], fun n => ?_⟩; dsimp only; split
  · next h => have := UInt8.toNat_lt (t[n]'h); omega
  · omega
 have hdr : ∀ k, (h : k < t.size) → ∃ c : UInt8, (c.toNat : Int) = sb k ∧ t.data.toList.drop k = c :: t.data.toList.drop (k + 1) := fun k h => by
  refine ⟨t[k], hsb k h, ?_⟩; rw [List.drop_eq_getElem_cons (by omega)]; rfl
 have hend : t.data.toList.drop t.size = [] := List.drop_eq_nil_of_le (by omega); have HSB := hide hsb; have HDR := hide hdr; have HEND := hide hend; clear hR hsb hdr hend htl; go_enter Tryz.func30, Tryz.ntmps30
 go_wp2; go_loop [4, 5, 6] (fun s n i => ∃ (k S : Nat) (N : Int), i = .int .i64 k ∧ s = .int .u64 S ∧ n = .int .i64 N ∧ S < 18446744073709551616 ∧ 0 ≤ N ∧ N ≤ 900 ∧ ((k ≤ t.size ∧ Hid (rAcc (t.data.toList.drop k) S N = R)) ∨ (k = t.size + 1 ∧ S = R))) (fun _ _ i => t.size + 1 - (intOf i).toNat)
 case atStart => exact ⟨0, 0, 0, rfl, rfl, rfl, by decide, by omega, by omega, .inl ⟨Nat.zero_le _, HR⟩⟩
 case round =>
  obtain ⟨k, S, N, rfl, rfl, rfl, lS, hN0, hN9, hrel⟩ := hrel; rcases hrel with ⟨hk, hacc⟩ | ⟨rfl, rfl⟩
  · by_cases hlt : k < t.size
    · obtain ⟨c, hc, hd⟩ := HDR.out k hlt
      have hx := HSB.out k hlt; obtain ⟨r0, r1⟩ := hsr k; have hA := hacc.out; rw [hd, rAcc] at hA; by_cases hdig : (48 ≤ sb k ∧ sb k ≤ 57) ∧ N ≤ 64
      · rw [if_pos (by omega)] at hA
        have HA := hide hA; obtain ⟨⟨hd1, hd2⟩, hn64⟩ := hdig; have q1 : decide (sb k ≥ 48) = true := decide_eq_true hd1; have q2 : decide (sb k ≤ 57) = true := decide_eq_true hd2; have q3 : decide (N ≤ 64) = true := decide_eq_true hn64; have HC := hide hc; clear hA hacc hd hc; go_wp2; go_round
        case rel => exact ⟨k + 1, S, N * 10 + (sb k - 48), by go_num, rfl, rfl, lS, by omega, by omega, .inl ⟨by omega, by rw [HC.out] at HA; exact HA⟩⟩
        case measure => simp [intOf]; omega
      · rw [if_neg (by omega)] at hA
        have HA := hide hA; have hlo := add_lt lS N; clear hA hacc hd hc; rcases (show sb k < 48 ∨ (48 ≤ sb k ∧ 57 < sb k) ∨ (48 ≤ sb k ∧ sb k ≤ 57 ∧ 64 < N) by omega) with h1 | ⟨h1, h2⟩ | ⟨h1, h2, h3⟩
        · have q1 : decide (sb k ≥ 48) = false := decide_eq_false (by omega)
          clear hdig; go_wp2_with (go_at_call 77; refine (rAdd_any S N _ lS (by omega) (by omega)).mono ?_; rintro e w' ⟨rfl, rfl⟩)
          go_round
          case rel => exact ⟨k + 1, addF S N, 0, by go_num, rfl, rfl, hlo, by omega, by omega, .inl ⟨by omega, HA⟩⟩
          case measure => simp [intOf]; omega
        · have q1 : decide (sb k ≥ 48) = true := decide_eq_true h1
          have q2 : decide (sb k ≤ 57) = false := decide_eq_false (by omega); clear hdig; go_wp2_with (go_at_call 77; refine (rAdd_any S N _ lS (by omega) (by omega)).mono ?_; rintro e w' ⟨rfl, rfl⟩)
          go_round
          case rel => exact ⟨k + 1, addF S N, 0, by go_num, rfl, rfl, hlo, by omega, by omega, .inl ⟨by omega, HA⟩⟩
          case measure => simp [intOf]; omega
        · have q1 : decide (sb k ≥ 48) = true := decide_eq_true h1
          have q2 : decide (sb k ≤ 57) = true := decide_eq_true h2; have q3 : decide (N ≤ 64) = false := decide_eq_false (by omega); clear hdig; go_wp2_with (go_at_call 77; refine (rAdd_any S N _ lS (by omega) (by omega)).mono ?_; rintro e w' ⟨rfl, rfl⟩)
          go_round
          case rel => exact ⟨k + 1, addF S N, 0, by go_num, rfl, rfl, hlo, by omega, by omega, .inl ⟨by omega, HA⟩⟩
          case measure => simp [intOf]; omega
    · have hke : k = t.size := by omega
      subst hke; have hA := hacc.out; rw [HEND.out, rAcc] at hA; have HA := hide hA; have hlo := add_lt lS N; clear hA hacc; go_wp2_with (go_at_call 77; refine (rAdd_any S N _ lS (by omega) (by omega)).mono ?_; rintro e w' ⟨rfl, rfl⟩)
      go_round
      case rel => exact ⟨t.size + 1, addF S N, 0, by go_num, rfl, rfl, hlo, by omega, by omega, .inr ⟨rfl, HA.out⟩⟩
      case measure => simp [intOf]
  · go_wp2_with fail
    (with_reducible refine (rText_anySt S _ lS).mono ?_); rintro e w5 ⟨rfl, hb5⟩; by_cases heq : textF S = t.data.toList
    · have hte : (⟨(textF S).toArray⟩ : ByteArray) = t := by rw [heq]
      rw [hte]; have HP2 := hide (hP.out.trans (if_pos heq)); clear hP heq hte; go_wp2; go_ret2
      exact ⟨by rw [HP2.out]; rfl, hb5⟩
    · have HP2 := hide (hP.out.trans (if_neg heq))
      obtain ⟨T, hT⟩ : ∃ T : ByteArray, (⟨(textF S).toArray⟩ : ByteArray) = T := ⟨_, rfl⟩; have hne : (T.toList == t.toList) = false := by rw [beq_eq_false_iff_ne, ← hT, ByteArray.toList_eq, ByteArray.toList_eq]; simpa using heq
      rw [hT]; clear hP heq hT; go_wp2; go_ret2
      exact ⟨by rw [HP2.out]; rfl, hb5⟩
