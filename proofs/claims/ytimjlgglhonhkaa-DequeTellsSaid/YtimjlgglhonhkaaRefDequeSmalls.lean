import Derived.Test.YtimjlgglhonhkaaRefDequeE
import Derived.Shelf.SortM.Plain
import Derived.Lib.AppendZerosOnto
/- Layer deque, the document's answer: Start, and a machine of the program's as one of the document's. -/
namespace Go.Proofs.Ytimjlgglhonhkaa
open Go.RowKit

set_option maxRecDepth 100000 in
theorem rStart_any (k s c x : Int) (w : World) : Calls Try.prog 21 #[.int .i64 k, .int .i64 s, .int .i64 c, .int .i64 x] w fun e w' => e = .returned (mvv k 0 s c 0 0 x 0) ∧ Below w.heap.size w w' := by
  go_enter Try.func21, Try.ntmps21
  go_wp2
  exact bodyPost_ret (v := mvv k 0 s c 0 0 x 0) (by simp [results, Try.results21, go_sem]) rfl ⟨rfl, bal _ _⟩
set_option maxRecDepth 100000 in
theorem refDeque_any (k p s c b t x u : Int) (w : World) : Calls Try.prog 14 #[mvv k p s c b t x u] w fun e w' => e = .returned (mvv k p s c b t x u) ∧ Below w.heap.size w w' := by
  go_enter Try.func14, Try.ntmps14
  go_wp2
  exact bodyPost_ret (v := mvv k p s c b t x u) (by simp [results, Try.results14, go_sem]) rfl ⟨rfl, bcall (bal _ _) (bal _ _)⟩
end Go.Proofs.Ytimjlgglhonhkaa
/- Layer deque, the document's answer: Cells. -/
namespace Go.Proofs.Ytimjlgglhonhkaa
open Go.RowKit

theorem cap_two (k : Nat) (h : k ≤ 64) : Builtin.nextslicecap (2 + k) 2 * 8 ≤ 1000 := by
  unfold Builtin.nextslicecap
  split
  · omega
  · rw [if_pos (by omega)]; omega
theorem zeroCells_get (k j : Nat) (h : j < k) : (Builtin.zeroCells #[Value.int .u64 0] k)[j]? = some (.int .u64 0) := by
  unfold Builtin.zeroCells
  simp [h, Nat.mod_one]
theorem cells_sl {w0 : World} {rest : Array Value} {n : Int} {k c : Nat} {T : TypeId} (hk : min (max n 1) 64 = (k : Int)) (hc : 2 + k ≤ c) (hm : c ≤ maxLen) :
    Cells (w0.alloc (.cells (#[Value.int .u64 1, Value.int .u64 1] ++ (Builtin.zeroCells #[Value.int .u64 0] k ++ rest)) T)).drew (.slice (some ⟨w0.heap.size, 0, none⟩) (2 + k) c) (cellsF n) := by
  have e0 : (min (max n 1) 64).toNat = k := by omega
  have hl : (cellsF n).length = 2 + k := by unfold cellsF; simp; omega
  refine ⟨_, c, by rw [hl], by rw [hl]; exact hc, hm, fun _ => ⟨w0.heap.size, 0, rfl, by simp [World.drew], fun i p hp j u hu => ?_⟩⟩
  have hi : i < 2 + k := by rw [← hl]; exact (List.getElem?_eq_some_iff.1 hp).1
  have hj : j = 0 ∧ u = .int .u64 p := by
    rcases j with _ | j
    · simp [uc] at hu; exact ⟨rfl, hu.symm⟩
    · simp [uc] at hu
  obtain ⟨rfl, rfl⟩ := hj
  have hb := Joins.cell_of_block (heap_alloc_new w0 (.cells (#[Value.int .u64 1, Value.int .u64 1] ++ (Builtin.zeroCells #[Value.int .u64 0] k ++ rest)) T)) (0 + i * 1 + 0)
  refine (show _ = _ from hb).trans ?_
  rcases i with _ | _ | i
  · simp [cellsF] at hp; subst hp; rw [Array.getElem?_append_left (by simp)]; rfl
  · simp [cellsF] at hp; subst hp; rw [Array.getElem?_append_left (by simp)]; rfl
  · have hp' : p = 0 := by
      simp [cellsF, e0, List.getElem?_replicate] at hp
      exact hp.2.symm
    subst hp'
    rw [Array.getElem?_append_right (by simp)]
    rw [Array.getElem?_append_left (by simp [Builtin.zeroCells]; omega)]
    simpa using zeroCells_get k i (by omega)
set_option maxRecDepth 100000 in
set_option maxHeartbeats 2000000 in
theorem rCells_any (n : Int) (_hn : I6 n) (N : Nat) (hN : (cellsF n).length = N) (w : World) : Calls Try.prog 19 #[.int .i64 n] w (CellsEnd w (cellsF n) N) := by
  obtain ⟨k, hk⟩ : ∃ k : Nat, min (max n 1) 64 = (k : Int) := ⟨(min (max n 1) 64).toNat, by omega⟩
  have hk1 : 1 ≤ k ∧ k ≤ 64 := by omega
  have hl : (cellsF n).length = 2 + k := by unfold cellsF; simp; omega
  have hb8 : (Try.t24).bytes = 8 := rfl
  have hcap := cap_two k hk1.2
  have et : (min (max n 1) 64).toNat = k := by omega
  obtain rfl : 2 + k = N := hl.symm.trans hN
  go_enter Try.func19, Try.ntmps19
  go_wp2
  all_goals try (exfalso; simp only [hb8, et] at *; omega)
  have hg1 := grownCap_ge w (2 + k) 2 24
  have hg2 := grownCap_le_maxLen w (2 + k) 2 24 (by unfold maxLen; omega)
  go_ret
  refine ⟨_, _, rfl, ⟨hg1, by unfold maxLen at hg2; exact hg2⟩, ?_, (bcall (bal _ _) (bal _ _)).drew⟩
  have h := cells_sl (w0 := w.alloc (.cells #[.int .u64 1, .int .u64 1] 24)) (rest := Builtin.zeroCells #[Value.int .u64 0] (grownCap w (2 + k) 2 24 - (2 + k))) (T := 24) hk hg1 hg2
  rw [show (w.alloc (.cells #[.int .u64 1, .int .u64 1] 24)).heap.size = w.heap.size + 1 by simp] at h
  exact h
end Go.Proofs.Ytimjlgglhonhkaa
