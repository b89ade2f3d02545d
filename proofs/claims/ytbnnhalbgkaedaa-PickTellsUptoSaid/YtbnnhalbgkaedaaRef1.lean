/- Layer pick: the document's own answer (package besomref01): Right, Known, has, all, Fair, Round; refPicks, samePicks. -/
import Derived.Test.YtbnnhalbgkaedaaSome
import Derived.Test.YtbnnhalbgkaedaaLawFair
import Derived.Deep.RegionLaw
namespace Go.Proofs.Ytbnnhalbgkaedaa
open Go.RowKit

theorem info34 : (Try.prog.info? 34).map (fun i => (i.zero, i.size, i.bytes)) = some (some (.agg #[.int .i64 0, .int .i64 0]), 2, 16) := by kernel_rfl
set_option maxHeartbeats 1000000 in
theorem rRight_any (k n : Int) (w : World) :
    Calls Try.prog 14 #[.agg #[.int .i64 k, .int .i64 n]] w fun e w' => e = .returned (.bool (right (k, n))) ∧ Below w.heap.size w w' := by
  go_enter Try.func14, Try.ntmps14
  go_wp2
  all_goals go_ret
  all_goals refine ⟨ret_bool ?_, by go_grown⟩
  all_goals first | (simp_all [right]; done) | (simp_all [right]; omega)

set_option maxHeartbeats 2000000 in
theorem refPicks_any (v : Value) (l : List PP) (w : World) (hl : Picks w v l) (hlen : l.length ≤ 8796093022208) :
    Calls Try.prog 15 #[v] w fun e w' => ∃ r, e = .returned r ∧ w'.ownsRow w.heap.size 34 2 r l.length (l.flatMap pc) ∧ Below w.heap.size w w' := by
  obtain ⟨i0, hi, hz0, hz1, hz2⟩ := info_parts info34
  have hl' := hl
  obtain ⟨A, c, rfl, h1, h2, -⟩ := hl'
  unfold maxLen at h2
  have HL := hide hl
  clear hl
  go_enter Try.func15, Try.ntmps15
  go_wp2
  go_loopw [3, 4] (fun r i wr => ∃ k : Nat, k ≤ l.length ∧ i = .int .i64 k ∧ wr.ownsRow w.heap.size 34 2 r k ((l.take k).flatMap pc) ∧ Below w.heap.size w wr) (fun _ i _ => l.length - (intOf i).toNat)
  case atStart => exact ⟨0, Nat.zero_le _, rfl, World.ownsRow_nil _ _ _ _, Below.refl _ _⟩
  case round =>
    obtain ⟨k, hk, rfl, hown, hb⟩ := hrel
    by_cases hlt : k < l.length
    · obtain ⟨b, off, rfl, hbl, c0, c1⟩ := picks_at (HL.out.below hb) hlt
      have HS := hide (show (l.take (k + 1)).flatMap pc = (l.take k).flatMap pc ++ [.int .i64 (l[k]).1, .int .i64 (l[k]).2] by
        rw [List.take_succ_eq_append_getElem hlt, List.flatMap_append]; simp [pc])
      have hbs := hb.size
      go_wp2
      go_region_law (refine step_append_own rfl _ _ 27 rfl w.heap.size 34 i0 (.agg #[.int .i64 0, .int .i64 0]) 2 16 Try.underlying27 hi hz0 hz1 hz2 rfl (by decide) _ _ _ rfl (hown.drew.alloc _) ⟨_, 0, none⟩ 1 1 [.int .i64 (l[k]).1, .int .i64 (l[k]).2] rfl rfl (row_at _ _ _ (by simp)) (by simp [Value.oneCell']) (by simp only [maxLen]; omega) (by omega) (by simp; omega) ?_; intro v' w1 hown' hb1)
      all_goals
        go_wp2
        go_roundw
        case rel => exact ⟨k + 1, by omega, by go_num, by rw [HS.out]; exact hown', (((bdrewN hb 1).alloc (by simp; omega) _).trans hb1)⟩
        case measure => simp [intOf]; omega
    · obtain rfl : k = l.length := by omega
      rw [List.take_length] at hown
      have HO := hide hown
      clear hown
      go_wp2
      go_returns
      exact ⟨_, rfl, HO.out, hb⟩
end Go.Proofs.Ytbnnhalbgkaedaa
