/- Layer set: Parse. -/
import Derived.Test.YtnodloeiabbliaaDoorSetParse2
namespace Go.Proofs.YtnodloeiabbliaaDoor
open Go.RowKit Go.Shelf Go.Proofs

theorem atoi0_rng (p : List UInt8) : -9223372036854775808 ≤ atoi0 p ∧ atoi0 p ≤ 9223372036854775807 := by
  unfold atoi0
  split
  · rename_i v h; exact Go.Lib.atoiAll_bounds h
  · omega
theorem nums_rng (t : List UInt8) : ∀ o ∈ numsF t, -9223372036854775808 ≤ o ∧ o ≤ 9223372036854775807 := by
  intro o ho
  obtain ⟨p, _, rfl⟩ := List.mem_map.1 ho
  exact atoi0_rng p
theorem ret_pair {a b : Nat} {c d : Int} (h : a = b) (k : c = d) : Ending.returned (.tuple #[.int .u64 (a : Int), .int .i64 c]) = .returned (.tuple #[.int .u64 (b : Int), .int .i64 d]) := by rw [h, k]

set_option maxHeartbeats 4000000 in
theorem Parse_any (t : ByteArray) (w : World) (ht : t.size ≤ 9223372036854775807) (hE : Env w) :
    Calls Tryd.prog 10 #[.string t] w fun e w' => e = .returned (.tuple #[.int .u64 ((parseF t.data.toList).1 : Nat), .int .i64 (parseF t.data.toList).2]) ∧ Below w.heap.size w w' := by
  obtain ⟨F, hF, hFs⟩ : ∃ F : ByteArray, (⟨(textF (firstF 64)).toArray⟩ : ByteArray) = F ∧ F.size = 182 := ⟨_, rfl, by rw [ba_size]; exact full_text⟩
  have htl : t.data.toList.length = t.size := by rw [Array.length_toList]; rfl
  have HF := hide hF
  have HE := hide hE
  clear hF hE
  by_cases h : F.size < t.size
  · have hP := hide (show parseF t.data.toList = (0, 2) by unfold parseF; rw [if_pos (by rw [htl]; omega)])
    have hd : decide (F.size < t.size) = true := decide_eq_true h
    clear htl hFs
    go_enter Tryd.func10, Tryd.ntmps10
    go_wp2_with fail
    refine (First_any _ _ (by omega) (by omega)).mono ?_
    rintro e w1 ⟨rfl, rfl⟩
    go_wp2_with fail
    refine (Text_any _ (first_lt _) _ HE.out).mono ?_
    rintro e w1 ⟨rfl, hb⟩
    rw [HF.out]
    go_wp2
    go_ret2
    exact ⟨by rw [hP.out]; rfl, hb⟩
  · have hd : decide (F.size < t.size) = false := decide_eq_false h
    have hN := hide (numbers_any t)
    have hlt := ofF_lt (numsF t.data.toList)
    generalize hS : ofF (numsF t.data.toList) = s at hlt
    have HS := hide hS
    have ht1 : t.size < 4294967281 := by omega
    have hP := hide (show parseF t.data.toList = if textF s = t.data.toList then (s, 0) else (0, 2) by rw [← hS]; unfold parseF; rw [if_neg (by rw [htl]; omega)])
    clear htl hFs hS
    go_enter Tryd.func10, Tryd.ntmps10
    go_wp2_with fail
    refine (First_any _ _ (by omega) (by omega)).mono ?_
    rintro e w1 ⟨rfl, rfl⟩
    go_wp2_with fail
    refine (Text_any _ (first_lt _) _ HE.out).mono ?_
    rintro e w2 ⟨rfl, hb2⟩
    rw [HF.out]
    have HE2 := hide (HE.out.below hb2)
    go_wp2_with fail
    (with_reducible refine (hN.out _ ht1 HE2.out).mono ?_)
    rintro e w3 ⟨v, rfl, ho3, hb3⟩
    have hb := bcall hb2 hb3
    have HE3 := hide (HE2.out.below hb3)
    have hI := hide (show Ints w3 v (numsF t.data.toList) from Sl.of_own ic_len ho3)
    clear ho3
    go_wp2_with fail
    refine (Of_any _ _ _ hI.out (nums_rng _)).mono ?_
    rintro e w4 ⟨rfl, rfl⟩
    rw [HS.out]
    go_wp2_with fail
    (with_reducible refine (Text_any s hlt _ HE3.out).mono ?_)
    rintro e w5 ⟨rfl, hb5⟩
    have hb := bcall hb hb5
    by_cases heq : textF s = t.data.toList
    · have hte : (⟨(textF s).toArray⟩ : ByteArray) = t := by rw [heq]
      rw [hte]
      have HP2 := hide (hP.out.trans (if_pos heq))
      clear hP heq hte
      go_wp2
      go_ret2
      exact ⟨by rw [HP2.out]; rfl, hb⟩
    · have HP2 := hide (hP.out.trans (if_neg heq))
      obtain ⟨T, hT⟩ : ∃ T : ByteArray, (⟨(textF s).toArray⟩ : ByteArray) = T := ⟨_, rfl⟩
      have hne : (T.toList == t.toList) = false := by rw [beq_eq_false_iff_ne, ← hT, ByteArray.toList_eq, ByteArray.toList_eq]; simpa using heq
      rw [hT]
      clear hP heq hT
      go_wp2
      go_ret2
      exact ⟨by rw [HP2.out]; rfl, hb⟩
end Go.Proofs.YtnodloeiabbliaaDoor
