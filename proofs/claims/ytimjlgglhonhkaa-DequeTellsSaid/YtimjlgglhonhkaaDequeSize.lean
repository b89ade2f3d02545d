/- Layer deque: size, place. -/
import Derived.Test.YtimjlgglhonhkaaDequeTurn
import Derived.StillTailTactics
namespace Go.Proofs.Ytimjlgglhonhkaa
open Go.RowKit

theorem max_cap {n : Int} (h : I6 n) : 1 ≤ max n 1 ∧ max n 1 ≤ 9223372036854775807 := by unfold I6 at h; omega
theorem size_any (n c : Int) (hn : I6 n) (hc : max n 1 = c) (w : World) : Calls Try.prog 51 #[.int .i64 n] w fun e w' => e = .returned (.int .u64 c) ∧ w = w' := by
  have h1 := max_cap hn
  rw [hc] at h1
  have e0 : IntKind.u64.wrap c = c := by rw [wrap_w]; exact w64_small (by omega) (by omega)
  by_cases hlt : n < 1
  · obtain rfl : c = 1 := by omega
    have h2 : decide (n < 1) = true := decide_eq_true hlt
    clear hc h1
    go_enter Try.func51, Try.ntmps51
    go_wp2
    go_ret
    first | exact ⟨rfl, rfl⟩ | exact ⟨ret_int (by omega), rfl⟩
  · obtain rfl : n = c := by omega
    have h2 : decide (n < 1) = false := decide_eq_false hlt
    clear hc
    have h3 : max n 1 = n := by omega
    go_enter Try.func51, Try.ntmps51
    go_wp2
    go_ret
    first | exact ⟨rfl, rfl⟩ | exact ⟨ret_int (by omega), rfl⟩

theorem place_any (base n i q : Int) (hn : I6 n) (hi : U i) (hq : s64 (base + 2 + i % max n 1) = q) (w : World) : Calls Try.prog 52 #[.int .i64 base, .int .i64 n, .int .u64 i] w fun e w' => e = .returned (.int .i64 q) ∧ w = w' := by
  have h1 := max_cap hn
  obtain ⟨c, hc⟩ : ∃ c, max n 1 = c := ⟨_, rfl⟩
  rw [hc] at hq h1
  have HC := hide hc
  have HN := hide hn
  have hi1 := hi.1
  have hi2 := hi.2
  have HQ := hide hq
  have hm0 := Int.emod_nonneg i (b := c) (by omega)
  have hm1 := Int.emod_lt_of_pos i (b := c) (by omega)
  obtain ⟨r, hr⟩ : ∃ r, i % c = r := ⟨_, rfl⟩
  rw [hr] at hm0 hm1
  have HR := hide hr
  have e1 : i.tmod c = r := by rw [Int.tmod_eq_emod_of_nonneg hi1]; exact hr
  have e2 : IntKind.i64.wrap r = r := by rw [wrap_s]; exact s64_small (by omega) (by omega)
  have q0 : (c == 0) = false := by rw [beq_eq_false_iff_ne]; omega
  clear hc hq hn hi hr
  go_enter Try.func52, Try.ntmps52
  go_wp2_with fail
  (with_reducible refine (size_any n c HN.out HC.out _).mono ?_)
  rintro e w2 ⟨rfl, rfl⟩
  go_wp2
  go_ret
  refine ⟨ret_int ?_, rfl⟩
  have := HQ.out
  rw [HR.out] at this
  rw [← this]
  simp only [wrap64, s64]
  try omega
theorem place_same (base n i q : Int) (hn : I6 n) (hi : U i) (hq : s64 (base + 2 + i % max n 1) = q) (w : World) : Calls Try.prog 52 #[.int .i64 base, .int .i64 n, .int .u64 i] w fun e w' => e = .returned (.int .i64 q) ∧ w' = w :=
  (place_any base n i q hn hi hq w).mono fun _ _ ⟨h1, h2⟩ => ⟨h1, h2.symm⟩
end Go.Proofs.Ytimjlgglhonhkaa
