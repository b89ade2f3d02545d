/- Layer pick: Round. -/
import Derived.Test.YtbnnhalbgkaedaaKnown
namespace Go.Proofs.Ytbnnhalbgkaedaa
open Go.RowKit

theorem info32 : (Try.prog.info? 32).map (fun i => (i.zero, i.size, i.bytes)) = some (some (.agg #[.int .i64 0, .int .i64 0]), 2, 16) := by kernel_rfl
def kindsTo (k : Int) (n : Nat) : List (Int × Int) := (List.range n).map fun i : Nat => (k, (i : Int) + 1)
def upto16 (n : Int) : Nat := (min n 16).toNat
def roundL (n m : Int) : List (Int × Int) := (0, 0) :: (kindsTo 1 (upto16 n) ++ kindsTo 2 (upto16 m))
theorem kindsTo_succ (k : Int) (n : Nat) : kindsTo k (n + 1) = kindsTo k n ++ [(k, (n : Int) + 1)] := by simp [kindsTo, List.range_succ]

theorem kindsTo_len (k : Int) (n : Nat) : (kindsTo k n).length = n := by simp [kindsTo]
theorem pc_len (p : Int × Int) : (pc p).length = 2 := rfl
theorem upto16_le (n : Int) : upto16 n ≤ 16 := by unfold upto16; omega
/-- the list after so many rounds of both loops -/
def rnd (a b : Nat) : List (Int × Int) := (0, 0) :: (kindsTo 1 a ++ kindsTo 2 b)
theorem rnd_len (a b : Nat) : (rnd a b).length = 1 + a + b := by simp [rnd, kindsTo_len]; omega
theorem rnd_1 (a : Nat) : (rnd (a + 1) 0).flatMap pc = (rnd a 0).flatMap pc ++ [.int .i64 1, .int .i64 ((a : Int) + 1)] := by
  simp [rnd, kindsTo, List.range_succ, pc]
theorem rnd_2 (a b : Nat) : (rnd a (b + 1)).flatMap pc = (rnd a b).flatMap pc ++ [.int .i64 2, .int .i64 ((b : Int) + 1)] := by
  simp [rnd, kindsTo, List.range_succ, pc]

set_option maxHeartbeats 4000000 in
theorem Round_any (n m : Int) (w : World) :
    Calls Try.prog 23 #[.int .i64 n, .int .i64 m] w fun e w' => ∃ v, e = .returned v ∧ w'.ownsRow w.heap.size 32 2 v (roundL n m).length ((roundL n m).flatMap pc) ∧ Below w.heap.size w w' := by
  obtain ⟨i0, hi, hz0, hz1, hz2⟩ := info_parts info32
  have hn16 := upto16_le n
  have hm16 := upto16_le m
  have hown0 := own_new w w.heap.size (pc (0, 0)) 32 2 1 (Nat.le_refl _) rfl (by simp [maxLen])
  have hb0 : Below w.heap.size w (w.alloc (.cells (pc (0, 0)).toArray 32)) := (Below.refl _ _).alloc (Nat.le_refl _) _
  rcases Int.lt_or_le 16 n with hn | hn <;> rcases Int.lt_or_le 16 m with hm | hm
  all_goals
    go_enter Try.func23, Try.ntmps23
    go_wp2
    go_loopw [5, 12] (fun v i wr => ∃ k : Nat, k ≤ upto16 n ∧ i = .int .i64 k ∧ wr.ownsRow w.heap.size 32 2 v (1 + k) ((rnd k 0).flatMap pc) ∧ Below w.heap.size w wr) (fun _ i _ => 16 - (intOf i).toNat)
    case atStart => exact ⟨0, Nat.zero_le _, rfl, hown0, hb0⟩
    case round =>
      obtain ⟨k, hk, rfl, hown, hb⟩ := hrel
      by_cases hlt : k < upto16 n
      · have hx : (k : Int) < n ∧ (k : Int) < 16 := by unfold upto16 at hlt; omega
        go_wp2_with (first
          | (at_builtin; refine wpList_append_own _ rfl _ _ 22 rfl w.heap.size 32 i0 (.agg #[.int .i64 0, .int .i64 0]) 2 16 Try.underlying22 hi hz0 hz1 hz2 rfl (by decide) _ _ _ rfl (hown.alloc _) ⟨wr.heap.size, 0, none⟩ 1 1 [.int .i64 1, .int .i64 ((k : Int) + 1)] rfl rfl (row_new _ _ _) (by simp [Value.oneCell']) (by simp only [maxLen]; omega) (by omega) (by have := hb.size; simp; omega) ?_; intro v' w1 hown' hgrow _))
        go_roundw
        case rel => exact ⟨k + 1, by omega, by go_num, by rw [rnd_1]; exact hown', (hb.alloc hb.size _).grown hgrow (by have := hb.size; simp; omega) (own_ge hown)⟩
        case measure => simp [intOf]; omega
      · first
          | (have hx : n ≤ (k : Int) := by (unfold upto16 at hlt; omega))
          | (have hx : (16 : Int) ≤ (k : Int) := by (unfold upto16 at hlt; omega))
        obtain rfl : k = upto16 n := by omega
        go_wp2
        go_loopw [5, 24] (fun v i wr => ∃ k : Nat, k ≤ upto16 m ∧ i = .int .i64 k ∧ wr.ownsRow w.heap.size 32 2 v (1 + upto16 n + k) ((rnd (upto16 n) k).flatMap pc) ∧ Below w.heap.size w wr) (fun _ i _ => 16 - (intOf i).toNat)
        case atStart => exact ⟨0, Nat.zero_le _, rfl, hown, hb⟩
        case round =>
          obtain ⟨k, hk, rfl, hown, hb⟩ := hrel
          by_cases hlt : k < upto16 m
          · have hx : (k : Int) < m ∧ (k : Int) < 16 := by unfold upto16 at hlt; omega
            go_wp2_with (first
              | (at_builtin; refine wpList_append_own _ rfl _ _ 22 rfl w.heap.size 32 i0 (.agg #[.int .i64 0, .int .i64 0]) 2 16 Try.underlying22 hi hz0 hz1 hz2 rfl (by decide) _ _ _ rfl (hown.alloc _) ⟨_, 0, none⟩ 1 1 [.int .i64 2, .int .i64 ((k : Int) + 1)] rfl rfl (row_new _ _ _) (by simp [Value.oneCell']) (by simp only [maxLen]; omega) (by omega) (by have := hb.size; simp; omega) ?_; intro v' w1 hown' hgrow _))
            go_roundw
            case rel => exact ⟨k + 1, by omega, by go_num, by rw [rnd_2]; exact hown', (hb.alloc hb.size _).grown hgrow (by have := hb.size; simp; omega) (own_ge hown)⟩
            case measure => simp [intOf]; omega
          · first
              | (have hx : m ≤ (k : Int) := by (unfold upto16 at hlt; omega))
              | (have hx : (16 : Int) ≤ (k : Int) := by (unfold upto16 at hlt; omega))
            obtain rfl : k = upto16 m := by omega
            go_wp2
            go_returns
            exact ⟨_, rfl, by rw [show roundL n m = rnd (upto16 n) (upto16 m) from rfl, rnd_len]; exact hown, hb⟩
end Go.Proofs.Ytbnnhalbgkaedaa
