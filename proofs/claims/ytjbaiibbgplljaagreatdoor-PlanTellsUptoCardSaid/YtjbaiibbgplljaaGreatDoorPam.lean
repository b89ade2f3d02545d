import Derived.Test.YtjbaiibbgplljaaGreatDoorPad
import Derived.Test.YtjbaiibbgplljaaGreatDoorPal
set_option maxRecDepth 100000
set_option maxHeartbeats 40000000
namespace Go.Proofs.YtjbaiibbgplljaaGreatDoor
open Go.RowKit
theorem rParse_end (s : ByteArray) (f i : Nat) (acc : List PP) (h : ¬ i < s.size) : rParse s f i acc = if 100000 < acc.length then ([], 3) else (acc, 0) := by
 cases f with
 | zero => rfl
 | succ f => rw [rParse, dif_neg h]
theorem sb_ex (s : ByteArray) : ∃ sb : Nat → Int, (∀ n (h : n < s.size), ((s[n]'h).toNat : Int) = sb n) ∧ ∀ n, 0 ≤ sb n ∧ sb n ≤ 255 := by
 refine ⟨fun n => if h : n < s.size then ((s[n]'h).toNat : Int) else 0, fun n h => by simp [h], fun n => ?_⟩; dsimp only; split
 · next h => have := UInt8.toNat_lt (s[n]'h); omega
 · omega
theorem rParse_anyPk (s : ByteArray) (w : World) (hs : s.size ≤ 1048576) :
 Calls Tryz.prog 32 #[.string s] w fun e w' => ∃ v, e = .returned (.tuple #[v, .int .i64 (parseFPk s).2]) ∧ w'.ownsRow w.heap.size 83 2 v (parseFPk s).1.length ((parseFPk s).1.flatMap pc) ∧ Below w.heap.size w w' := by
 obtain ⟨i0, hi, hz0, hz1, hz2⟩ := info_parts info83; obtain ⟨sb, hsb, hsr⟩ := sb_ex s; go_enter Tryz.func32, Tryz.ntmps32
 go_wp2; go_loopw [4, 5] (fun v i wr => ∃ (k f : Nat) (acc : List PP), i = .int .i64 k ∧ k ≤ s.size ∧ acc.length ≤ k ∧ s.size ≤ k + f ∧ wr.ownsRow w.heap.size 83 2 v acc.length (acc.flatMap pc) ∧ Below w.heap.size w wr ∧ rParse s f k acc = parseFPk s) (fun _ i _ => s.size - (intOf i).toNat)
 case atStart => exact ⟨0, s.size, [], rfl, Nat.zero_le _, Nat.zero_le _, by omega, World.ownsRow_nil _ _ _ _, Below.refl _ _, rParse_all s⟩
 case round =>
  obtain ⟨k, f, acc, rfl, hk, hal, hfu, hown, hb, hpf⟩ := hrel; obtain ⟨A, cp, rfl, hcp, hcm⟩ := own_form hown; have hwa := hb.size; by_cases hp : k < s.size
  · obtain ⟨f, rfl⟩ : ∃ g, f = g + 1 := ⟨f - 1, by omega⟩
    rw [rParse, dif_pos hp] at hpf; have hx := hsb k hp; obtain ⟨r0, r1⟩ := hsr k; by_cases c1 : sb k = 32 ∨ sb k = 10
    · rw [if_pos (by omega)] at hpf
      have HP := hide hpf; clear hpf hx; rcases c1 with c1 | c1
      all_goals
       go_wp2; go_roundw
       case rel => exact ⟨k + 1, f, acc, by go_num, by omega, by omega, by omega, hown, hb, HP.out⟩
       case measure => simp [intOf]; omega
    · rw [if_neg (by omega)] at hpf
      by_cases c2 : sb k = 46
      · rw [if_pos (by omega)] at hpf
        have HP := hide hpf; clear hpf hx; go_wp2_with (at_builtin; refine wpList_append_own _ rfl _ _ 38 rfl w.heap.size 83 i0 (.agg #[.int .i64 0, .int .i64 0]) 2 16 Tryz.underlying38 hi hz0 hz1 hz2 rfl (by decide) _ _ _ rfl (hown.alloc _) ⟨_, 0, none⟩ 1 1 [.int .i64 0, .int .i64 0] rfl rfl (row_at _ _ _ (by simp)) (by simp [Value.oneCell']) (by simp only [maxLen]; omega) (by omega) (by have := hb.size; simp; omega) ?_; intro v' w1 hown' hgrow _)
        go_roundw
        case rel => exact ⟨k + 1, f, acc ++ [(0, 0)], by go_num, by omega, by simp; omega, by omega, by rw [List.length_append, List.flatMap_append]; exact hown', (hb.alloc hb.size _).grown hgrow (by have := hb.size; simp; omega) (own_ge hown), HP.out⟩
        case measure => simp [intOf]; omega
      · rw [if_neg (by omega)] at hpf
        have b32 : (sb k == 32) = false := by rw [beq_eq_false_iff_ne]; omega
        have b10 : (sb k == 10) = false := by rw [beq_eq_false_iff_ne]; omega
        have b46 : (sb k == 46) = false := by rw [beq_eq_false_iff_ne]; omega
        by_cases c3 : 97 ≤ sb k ∧ sb k ≤ 112
        · rw [if_pos (by omega), hx] at hpf
          have HP := hide hpf; clear hpf hx; obtain ⟨c3a, c3b⟩ := c3; go_wp2_with (at_builtin; refine wpList_append_own _ rfl _ _ 38 rfl w.heap.size 83 i0 (.agg #[.int .i64 0, .int .i64 0]) 2 16 Tryz.underlying38 hi hz0 hz1 hz2 rfl (by decide) _ _ _ rfl (hown.alloc _) ⟨_, 0, none⟩ 1 1 [.int .i64 1, .int .i64 (sb k - 97 + 1)] rfl rfl (row_at _ _ _ (by simp)) (by simp [Value.oneCell']) (by simp only [maxLen]; omega) (by omega) (by have := hb.size; simp; omega) ?_; intro v' w1 hown' hgrow _)
          go_roundw
          case rel => exact ⟨k + 1, f, acc ++ [(1, sb k - 96)], by go_num, by omega, by simp; omega, by omega, by rw [List.length_append, List.flatMap_append, show sb k - 96 = sb k - 97 + 1 by omega]; exact hown', (hb.alloc hb.size _).grown hgrow (by have := hb.size; simp; omega) (own_ge hown), HP.out⟩
          case measure => simp [intOf]; omega
        · rw [if_neg (by omega)] at hpf
          by_cases h1 : k + 1 < s.size
          · rw [dif_pos h1] at hpf
            have hy := hsb (k + 1) h1; obtain ⟨q0, q1⟩ := hsr (k + 1); by_cases c4 : sb k = 206 ∧ 177 ≤ sb (k + 1) ∧ sb (k + 1) ≤ 191
            · rw [if_pos (by omega), hy] at hpf
              have HP := hide hpf; clear hpf hx hy b32 b10 b46; obtain ⟨c4, c4a, c4b⟩ := c4; go_wp2_with (at_builtin; refine wpList_append_own _ rfl _ _ 38 rfl w.heap.size 83 i0 (.agg #[.int .i64 0, .int .i64 0]) 2 16 Tryz.underlying38 hi hz0 hz1 hz2 rfl (by decide) _ _ _ rfl (hown.alloc _) ⟨_, 0, none⟩ 1 1 [.int .i64 2, .int .i64 (sb (k + 1) - 176)] rfl rfl (row_at _ _ _ (by simp)) (by simp [Value.oneCell']) (by simp only [maxLen]; omega) (by omega) (by have := hb.size; simp; omega) ?_; intro v' w1 hown' hgrow _)
              go_roundw
              case rel => exact ⟨k + 2, f, acc ++ [(2, sb (k + 1) - 176)], by go_num, by omega, by simp; omega, by omega, by rw [List.length_append, List.flatMap_append]; exact hown', (hb.alloc hb.size _).grown hgrow (by have := hb.size; simp; omega) (own_ge hown), HP.out⟩
              case measure => simp [intOf]; omega
            · rw [if_neg (by omega)] at hpf
              by_cases c5 : sb k = 207 ∧ sb (k + 1) = 128
              · rw [if_pos (by omega)] at hpf
                have HP := hide hpf; clear hpf hx hy b32 b10 b46 c4; obtain ⟨c5, c5a⟩ := c5; go_wp2_with (at_builtin; refine wpList_append_own _ rfl _ _ 38 rfl w.heap.size 83 i0 (.agg #[.int .i64 0, .int .i64 0]) 2 16 Tryz.underlying38 hi hz0 hz1 hz2 rfl (by decide) _ _ _ rfl (hown.alloc _) ⟨_, 0, none⟩ 1 1 [.int .i64 2, .int .i64 16] rfl rfl (row_at _ _ _ (by simp)) (by simp [Value.oneCell']) (by simp only [maxLen]; omega) (by omega) (by have := hb.size; simp; omega) ?_; intro v' w1 hown' hgrow _)
                go_roundw
                case rel => exact ⟨k + 2, f, acc ++ [(2, 16)], by go_num, by omega, by simp; omega, by omega, by rw [List.length_append, List.flatMap_append]; exact hown', (hb.alloc hb.size _).grown hgrow (by have := hb.size; simp; omega) (own_ge hown), HP.out⟩
                case measure => simp [intOf]; omega
              · rw [if_neg (by omega)] at hpf
                have HP := hide hpf; clear hpf hx hy; go_wp2; all_goals first | (exfalso; simp at *; omega) | skip
                all_goals
                 go_returns
                 rw [← HP.out]; exact ⟨_, rfl, by simpa using World.ownsRow_nil _ _ _ _, hb⟩
          · rw [dif_neg h1] at hpf
            have HP := hide hpf; clear hpf hx; go_wp2; all_goals first | (exfalso; simp at *; omega) | skip
            all_goals
             go_returns
             rw [← HP.out]; exact ⟨_, rfl, by simpa using World.ownsRow_nil _ _ _ _, hb⟩
  · rw [rParse_end s f k acc hp] at hpf
    have HP := hide hpf; clear hpf; by_cases hl : 100000 < acc.length
    · have HP := hide (show ([], 3) = parseFPk s by rw [← HP.out, if_pos hl])
      go_wp2; go_returns
      rw [← HP.out]; exact ⟨_, rfl, by simpa using World.ownsRow_nil _ _ _ _, hb⟩
    · have HP := hide (show (acc, 0) = parseFPk s by rw [← HP.out, if_neg hl])
      go_wp2; go_returns
      rw [← HP.out]; exact ⟨_, rfl, hown, hb⟩
