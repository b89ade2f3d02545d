/- Layer pick: the functions on one pick: Right, isThere, read, write. -/
import Derived.Test.YtbnnhalbgkaedaaCore
namespace Go.Proofs.Ytbnnhalbgkaedaa
open Go.RowKit

/-- a pick as a value -/
def pv (p : Int × Int) : Value := .agg #[.int .i64 p.1, .int .i64 p.2]
/-- is a pick right? -/
def right (p : Int × Int) : Bool := (p.1 == 0 && p.2 == 0) || ((p.1 == 1 || p.1 == 2) && decide (1 ≤ p.2) && decide (p.2 ≤ 16))
/-- is a pick of one of n workers, m mutators, or the detector? -/
def there (p : Int × Int) (n m : Int) : Bool := right p && (p.1 != 1 || decide (p.2 ≤ n)) && (p.1 != 2 || decide (p.2 ≤ m))

set_option maxHeartbeats 400000 in
theorem Right_any (k n : Int) (w : World) :
    Calls Try.prog 13 #[.agg #[.int .i64 k, .int .i64 n]] w fun e w' => e = .returned (.bool (right (k, n))) ∧ Below w.heap.size w w' := by
  go_enter Try.func13, Try.ntmps13
  go_wp2
  all_goals go_ret
  all_goals refine ⟨ret_bool ?_, by go_grown⟩
  all_goals simp_all [right]
  all_goals omega

set_option maxHeartbeats 400000 in
theorem isThere_any (k n a b : Int) (w : World) :
    Calls Try.prog 32 #[.agg #[.int .i64 k, .int .i64 n], .int .i64 a, .int .i64 b] w fun e w' => e = .returned (.bool (there (k, n) a b)) ∧ Below w.heap.size w w' := by
  go_enter Try.func32, Try.ntmps32
  go_wp2_with (go_at_call 13; refine (Right_any _ _ _).mono ?_; rintro e w' ⟨rfl, hb⟩; obtain ⟨hc, hf⟩ := bcell hb)
  all_goals go_ret
  all_goals refine ⟨ret_bool ?_, ?_⟩
  all_goals first | exact (((Below.refl _ _).alloc (Nat.le_refl _) _).trans (hb.mono (by simp))) | (clear hb hc hf; grind [there])

/-- the pick that a rune stands for -/
def readF (r : Int) : (Int × Int) × Bool :=
  if r = 46 then ((0, 0), true) else if 97 ≤ r ∧ r < 113 then ((1, r - 96), true) else if 945 ≤ r ∧ r < 961 then ((2, r - 944), true) else ((0, 0), false)
def writeF (p : Int × Int) : Int := if right p = false then 63 else if p.1 = 1 then p.2 + 96 else if p.1 = 2 then p.2 + 944 else 46

theorem right_1 {k n : Int} (h : (!right (k, n)) = false) (hk : (k == 1) = true) : 1 ≤ n ∧ n ≤ 16 := by
  simp [right] at h hk; omega
theorem right_2 {k n : Int} (h : (!right (k, n)) = false) (hk : (k == 2) = true) : 1 ≤ n ∧ n ≤ 16 := by
  simp [right] at h hk; omega
theorem writeF_1 {k n : Int} (h : (!right (k, n)) = false) (hk : (k == 1) = true) : wrap32 (97 + wrap32 (wrap64 (n - 1))) = writeF (k, n) := by
  have := right_1 h hk
  have e : writeF (k, n) = n + 96 := by simp at h hk; subst hk; simp [writeF, h]
  rw [e]; simp only [wrap32, wrap64]; omega
theorem writeF_2 {k n : Int} (h : (!right (k, n)) = false) (h1 : (k == 1) = false) (hk : (k == 2) = true) : wrap32 (945 + wrap32 (wrap64 (n - 1))) = writeF (k, n) := by
  have := right_2 h hk
  have e : writeF (k, n) = n + 944 := by simp at h hk; subst hk; simp [writeF, h]
  rw [e]; simp only [wrap32, wrap64]; omega

set_option maxHeartbeats 400000 in
theorem read_any (r : Int) (w : World) (h0 : -2147483648 ≤ r) (h1 : r ≤ 2147483647) :
    Calls Try.prog 27 #[.int .i32 r] w fun e w' => e = .returned (.tuple #[pv (readF r).1, .bool (readF r).2]) ∧ Below w.heap.size w w' := by
  go_enter Try.func27, Try.ntmps27
  go_wp2
  all_goals go_returns
  all_goals refine ⟨?_, by go_grown⟩
  all_goals (unfold readF pv; repeat' split)
  all_goals first | (simp; done) | (simp; omega) | (simp_all; done) | (simp_all; omega)

set_option maxHeartbeats 400000 in
theorem write_any (k n : Int) (w : World) :
    Calls Try.prog 29 #[.agg #[.int .i64 k, .int .i64 n]] w fun e w' => e = .returned (.int .i32 (writeF (k, n))) ∧ Below w.heap.size w w' := by
  go_enter Try.func29, Try.ntmps29
  go_wp2_with (go_at_call 13; refine (Right_any _ _ _).mono ?_; rintro e w' ⟨rfl, hb⟩; obtain ⟨hc, hf⟩ := bcell hb)
  all_goals go_returns
  all_goals refine ⟨ret_int ?_, ?_⟩
  all_goals first | exact (((Below.refl _ _).alloc (Nat.le_refl _) _).trans (hb.mono (by simp))) | (clear hb hc hf; first | exact writeF_1 (by assumption) (by assumption) | exact writeF_2 (by assumption) (by assumption) (by assumption) | (simp_all [writeF]; done))
end Go.Proofs.Ytbnnhalbgkaedaa
