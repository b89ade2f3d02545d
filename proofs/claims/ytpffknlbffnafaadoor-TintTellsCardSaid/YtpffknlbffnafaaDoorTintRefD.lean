/- Layer tint: the document's own answer: Text; colours as the document's. -/
import Derived.Test.YtpffknlbffnafaaDoorTintRefC
import Derived.Test.YtpffknlbffnafaaDoorTintTied
namespace Go.Proofs.YtpffknlbffnafaaDoor
open Go.RowKit
theorem refTint_any (m b : Nat) (w : World) :
    Calls Tryd.prog 10 #[tv m b] w fun e w' => e = .returned (tv m b) ∧ Below w.heap.size w w' := by
  go_enter Tryd.func10, Tryd.ntmps10
  go_wp2
  refine bodyPost_ret (v := tv m b) (by simp [results, Tryd.results10, go_sem]) rfl ⟨rfl, ?_⟩
  exact ((Below.refl _ _).alloc (Nat.le_refl _) _).alloc (by simp) _
theorem take_byte (l : List UInt8) (k : Nat) (h : k < l.length) (c : UInt8) (hc : l[k] = c) : ((⟨(l.take k).toArray⟩ : ByteArray) ++ ⟨#[c]⟩) = ⟨(l.take (k + 1)).toArray⟩ := by
  rw [List.take_succ_eq_append_getElem h, hc]
  exact ba_append _ [c]
set_option maxHeartbeats 4000000 in
theorem rText_any (m b : Nat) (n : Int) (hm : m < 18446744073709551616) (hb : b < 18446744073709551616) (h0 : -9223372036854775808 ≤ n) (h1 : n ≤ 9223372036854775807) (w : World) :
    Calls Tryd.prog 26 #[tv m b, .int .i64 n] w fun e w' => e = .returned (.string ⟨(tText m b n).toArray⟩) ∧ Below w.heap.size w w' := by
  obtain ⟨w1, e1, hB, hs1, a0, a1, -, -⟩ := box1 w (.int .u64 m) (.int .u64 b) 28
  have HE1 := hide e1
  clear e1
  have hl := text_len m b n
  have hat := text_at m b n
  obtain ⟨l, hll⟩ : ∃ l, tText m b n = l := ⟨_, rfl⟩
  rw [hll] at hl
  have HAT := hide (show ∀ (k : Nat) (h : k < l.length), l[k] = tLetter (tOf m b ((k : Int) + 1)) by rw [← hll]; exact hat)
  have HLL := hide hll
  obtain ⟨N, hN⟩ : ∃ N, l.length = N := ⟨_, rfl⟩
  have HN := hide hN
  rw [hN] at hl
  clear hll hat hN
  go_enter Tryd.func26, Tryd.ntmps26
  go_upto_region 1 with (fail)
  rw [HE1.out]
  go_wp2
  go_loopw [5, 6] (fun sv iv wr => ∃ k : Nat, k ≤ N ∧ sv = .string ⟨(l.take k).toArray⟩ ∧ iv = .int .i64 ((k : Int) + 1) ∧ Below w1.heap.size w1 wr) (fun _ iv _ => 65 - (Go.RowKit.intOf iv).toNat)
  case atStart => exact ⟨0, Nat.zero_le _, by simp, by go_num, Below.refl _ _⟩
  case round =>
    obtain ⟨k, hk, rfl, rfl, hbw⟩ := hrel
    have c0 := keepc hbw a0
    have c1 := keepc hbw a1
    by_cases hkn : k < N
    · have q1 : (k : Int) + 1 ≤ n := by omega
      have q2 : (k : Int) + 1 ≤ 64 := by omega
      have hlt : k < l.length := by rw [HN.out]; exact hkn
      obtain ⟨V, hV⟩ : ∃ V, tOf m b ((k : Int) + 1) = V := ⟨_, rfl⟩
      have HV_ := hide hV
      have hr := tOf_rng m b ((k : Int) + 1)
      rw [hV] at hr
      obtain ⟨l3, hl3⟩ : ∃ o : Obj, (Obj.cells #[.string ⟨#[119]⟩, .string ⟨#[103]⟩, .string ⟨#[98]⟩] 9) = o := ⟨_, rfl⟩
      have A0 : ∀ ob, (wr.alloc ob).cell? ⟨w.heap.size, 0, none⟩ = some (.int .u64 m) := fun _ => keepc (bal _ _) c0
      have A1 : ∀ ob, (wr.alloc ob).cell? ⟨w.heap.size, 1, none⟩ = some (.int .u64 b) := fun _ => keepc (bal _ _) c1
      have d0 := row_new wr [.string ⟨#[119]⟩, .string ⟨#[103]⟩, .string ⟨#[98]⟩] 9 0 _ rfl
      have d1 := row_new wr [.string ⟨#[119]⟩, .string ⟨#[103]⟩, .string ⟨#[98]⟩] 9 1 _ rfl
      have d2 := row_new wr [.string ⟨#[119]⟩, .string ⟨#[103]⟩, .string ⟨#[98]⟩] 9 2 _ rfl
      rw [add_none] at d0 d1 d2
      have D0 := hide d0
      have D1 := hide d1
      have D2 := hide d2
      clear hV d0 d1 d2 hl3 l3
      go_wp2_with fail
      (with_reducible refine (rOf_any m b _ hm hb (by omega) (by omega) _).mono ?_)
      rintro e w4 ⟨rfl, hb4⟩
      rw [HV_.out]
      clear A0 A1 c0 c1
      have d0 := keepc hb4 D0.out
      have d1 := keepc hb4 D1.out
      have d2 := keepc hb4 D2.out
      rcases (show V = 0 ∨ V = 1 ∨ V = 2 by omega) with rfl | rfl | rfl
      · have HT := hide (take_byte l k hlt 119 (by rw [HAT.out k hlt, HV_.out]; decide))
        go_wp2
        go_roundw
        case rel => exact ⟨k + 1, by omega, by first | rfl | (rw [HT.out]) | exact congrArg Value.string HT.out, by go_num, bcall hbw (bcall1 (Below.refl _ _) hb4)⟩
        case measure => simp [Go.RowKit.intOf]; omega
      · have HT := hide (take_byte l k hlt 103 (by rw [HAT.out k hlt, HV_.out]; decide))
        go_wp2
        go_roundw
        case rel => exact ⟨k + 1, by omega, by first | rfl | (rw [HT.out]) | exact congrArg Value.string HT.out, by go_num, bcall hbw (bcall1 (Below.refl _ _) hb4)⟩
        case measure => simp [Go.RowKit.intOf]; omega
      · have HT := hide (take_byte l k hlt 98 (by rw [HAT.out k hlt, HV_.out]; decide))
        go_wp2
        go_roundw
        case rel => exact ⟨k + 1, by omega, by first | rfl | (rw [HT.out]) | exact congrArg Value.string HT.out, by go_num, bcall hbw (bcall1 (Below.refl _ _) hb4)⟩
        case measure => simp [Go.RowKit.intOf]; omega
    · by_cases q1 : (k : Int) + 1 ≤ n
      · have q2 : ¬ (k : Int) + 1 ≤ 64 := by omega
        go_wp2
        go_ret
        exact ⟨by rw [HLL.out]; simp [List.take_of_length_le (show l.length ≤ k by rw [HN.out]; omega)], bcall hB hbw⟩
      · go_wp2
        go_ret
        exact ⟨by rw [HLL.out]; simp [List.take_of_length_le (show l.length ≤ k by rw [HN.out]; omega)], bcall hB hbw⟩
end Go.Proofs.YtpffknlbffnafaaDoor
