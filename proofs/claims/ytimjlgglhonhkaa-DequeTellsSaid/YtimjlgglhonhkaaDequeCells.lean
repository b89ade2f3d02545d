/- Layer deque: Cells, Start. -/
import Derived.Test.YtimjlgglhonhkaaDequeRun
import Derived.Deep.OwnRows
namespace Go.Proofs.Ytimjlgglhonhkaa
open Go.RowKit

theorem uc_map (l : List Int) : l.flatMap uc = l.map (Value.int .u64) := by
  induction l with
  | nil => rfl
  | cons x l ih => simp [List.flatMap_cons, ih, uc]
theorem madeU (N : Nat) : (madeCells #[Value.int .u64 0] N).toList = (List.replicate N (0 : Int)).flatMap uc := by
  rw [uc_map, List.map_replicate, toList_madeCells_one]
theorem made0 (N j : Nat) (h : j < N) : ((madeCells (Value.int .u64 0).cells (N * 1)).toList)[j]? = some (.int .u64 0) := by
  have e0 : (madeCells (Value.int .u64 0).cells (N * 1)).toList = List.replicate N (Value.int .u64 0) := by rw [Nat.mul_one]; exact toList_madeCells_one _ _
  rw [e0]; simp [h]
theorem cellsF_len (n : Int) : ((cellsF n).length : Int) = 2 + min (max n 1) 64 := by
  unfold cellsF; simp; omega
def CellsEnd (w : World) (m : List Int) (n : Nat) (e : Ending) (w' : World) : Prop := ∃ A c, e = .returned (.slice A n c) ∧ (n ≤ c ∧ c ≤ 9223372036854775807) ∧ Cells w' (.slice A n c) m ∧ Below w.heap.size w w'
theorem cells_fin {w w1 : World} {g : Nat} {n : Int} {N : Nat} (hN : (cellsF n).length = N) (hown : w1.ownsRow w.heap.size 24 1 (.slice (some ⟨g, 0, none⟩) N N) N (madeCells (Value.int .u64 0).cells (N * 1)).toList) (hg : w.grownBy w1 none) :
    CellsEnd w (cellsF n) N (.returned (.slice (some ⟨g, 0, none⟩) N N)) ((w1.setCell ⟨g, 0, none⟩ (.int .u64 1)).setCell ⟨g, 1, none⟩ (.int .u64 1)) := by
  subst hN
  have hgb := (hown.lt g rfl).1
  have hb0 : Below w.heap.size w w1 := ⟨hg.os, hg.tape, hg.output, hg.size, fun k hk => hg.block k hk (by simp)⟩
  have e0 : (madeCells (Value.int .u64 0).cells ((cellsF n).length * 1)).toList = (List.replicate (cellsF n).length (0 : Int)).flatMap uc := by rw [Nat.mul_one]; exact madeU _
  rw [e0] at hown
  have h1 := (hown.stored 0 (.int .u64 1)).1
  rw [← uc_set] at h1
  have h2 := (h1.stored 1 (.int .u64 1)).1
  rw [← uc_set] at h2
  have e1 : ((List.replicate (cellsF n).length (0 : Int)).set 0 1).set 1 1 = cellsF n := by
    unfold cellsF
    simp [List.replicate_succ]
  rw [e1] at h2
  have hf := own_form h2
  obtain ⟨A, c, e, hc1, hc2⟩ := hf
  injection e with e1 e2 e3
  subst e3
  exact ⟨_, _, rfl, ⟨Nat.le_refl _, by unfold maxLen at hc2; omega⟩, OwnC.cells h2, (hb0.setCell (p := ⟨g, 0, none⟩) hgb _).setCell (p := ⟨g, 1, none⟩) hgb _⟩

set_option maxRecDepth 100000 in
set_option maxHeartbeats 2000000 in
theorem Cells_any (n : Int) (hn : I6 n) (N : Nat) (hN : (cellsF n).length = N) (w : World) : Calls Try.prog 18 #[.int .i64 n] w (CellsEnd w (cellsF n) N) := by
  have h1 := hn.1
  have h2 := hn.2
  obtain ⟨i0, hi, hz0, hz1, hz2⟩ := info_parts infoU
  have HN := hide hN
  have HL := hide (cellsF_len n)
  have hN66 : N ≤ 66 ∧ 3 ≤ N := by have := cellsF_len n; omega
  clear hN hn
  go_enter Try.func18, Try.ntmps18
  go_wp2_with (refine wpList_make_full _ rfl _ _ _ rfl w.heap.size 24 i0 (.int .u64 0) 1 Try.underlying23 hi hz0 hz1 .i64 .i64 _ _ N rfl rfl (by have := HN.out; have := HL.out; omega) (by have := HN.out; have := HL.out; omega) (by rw [hz2]; omega) (by unfold maxLen; omega) (Nat.le_refl _) ?_; intro w1 hown hg; have x0 := (hown.cellAt 0 (by omega)).trans (made0 N 0 (by omega)); have x1 := (hown.cellAt 1 (by omega)).trans (made0 N 1 (by omega)); have f0 := hown.frozenAt 0; have f1 := hown.frozenAt 1; have HF := hide (cells_fin HN.out hown hg); clear hown hg)
  all_goals
    go_ret
    exact HF.out
set_option maxRecDepth 100000 in
theorem Start_any (k s c x : Int) (w : World) : Calls Try.prog 20 #[.int .i64 k, .int .i64 s, .int .i64 c, .int .i64 x] w fun e w' => e = .returned (mvv k 0 s c 0 0 x 0) ∧ Below w.heap.size w w' := by
  go_enter Try.func20, Try.ntmps20
  go_wp2
  exact bodyPost_ret (v := mvv k 0 s c 0 0 x 0) (by simp [results, Try.results20, go_sem]) rfl ⟨rfl, bal _ _⟩
end Go.Proofs.Ytimjlgglhonhkaa
