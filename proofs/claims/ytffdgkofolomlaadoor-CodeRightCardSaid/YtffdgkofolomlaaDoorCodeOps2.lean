/- Layer code: ops: its body's walk. -/
import Derived.Test.YtffdgkofolomlaaDoorCodeOps
namespace Go.Proofs.YtffdgkofolomlaaDoor
open Go.RowKit Go.Shelf Go.Proofs
attribute [local go_sem] Oper.semAt_some

theorem take_more {acc : List Oq} {q : Oq} (h : 64 ≤ acc.length) : (acc ++ [q]).take 64 = acc.take 64 := by
  rw [List.take_append_of_le_length h]
theorem OpsAt.over {w W : World} {acc : List Oq} {v x : Value} {k : Nat} {rec : Loop} (h : OpsAt w acc v k x rec W) (hk : acc.length = k) (h64 : 64 ≤ acc.length) (q : Oq) : OpsAt w (acc ++ [q]) v (k + 1) x rec (W.setCell ⟨w.heap.size + 1, 0, none⟩ (.bool true)) :=
  have ko := KeepsOthers.setCell W ⟨w.heap.size + 1, 0, none⟩ (.bool true)
  ⟨h.bl.other (by omega) _, by rw [take_more h64]; exact h.row.kept (grownBy_setCell' W _ _) (Or.inr (h.ov.not_row (by decide) h.row).symm), by rw [show decide (64 < k + 1) = true by rw [decide_eq_true_eq]; omega]; exact h.ov.set _, h.bs.other (by omega) _, h.bp.other (by omega) _, h.bv.other (by omega) _,
    ko.same _ _ h.df rfl, ko.same _ _ h.lp rfl, h.bw.setCell (p := ⟨w.heap.size + 1, 0, none⟩) (by simp) _⟩
theorem OpsAt.app {w W w1 : World} {acc : List Oq} {v v' x : Value} {k : Nat} {rec : Loop} {tmp : Obj} {q : Oq} (h : OpsAt w acc v k x rec W) (hk : acc.length = k) (h64 : acc.length < 64)
    (hown : w1.ownsRow w.heap.size 24 4 v' ((acc.take 64).length + 1) ((acc.take 64).flatMap oq ++ oq q)) (hgrow : (W.alloc tmp).grownBy w1 v.ownBlock) :
    w1.cell? ⟨w.heap.size, 0, none⟩ = some v ∧ w1.frozen? ⟨w.heap.size, 0, none⟩ = false ∧ OpsAt w (acc ++ [q]) v' (k + 1) x rec (w1.setCell ⟨w.heap.size, 0, none⟩ v') := by
  obtain ⟨hv1, hv2, hr2, hk2, hb2⟩ := h.bl.appended (by decide) h.row h.bw.size (Nat.le_refl _) hown hgrow
  have ht : acc.take 64 = acc := List.take_of_length_le (by omega)
  have ht2 : (acc ++ [q]).take 64 = acc ++ [q] := List.take_of_length_le (by simp; omega)
  have keep : ∀ {B : Nat} {t : TypeId} {u : Value}, Boxed W B t u → t ≠ 24 → B ≠ w.heap.size → Boxed (w1.setCell ⟨w.heap.size, 0, none⟩ v') B t u := fun hB hte hne => ((hB.alloc tmp).kept hgrow (hB.not_row hte h.row)).other hne _
  refine ⟨hv1.cell, hv1.frozen, ⟨hv2, ?_, ?_, keep h.bs (by decide) (by omega), keep h.bp (by decide) (by omega), keep h.bv (by decide) (by omega), hk2.same _ _ h.df rfl, hk2.same _ _ h.lp rfl, h.bw.trans hb2⟩⟩
  · rw [ht2, List.length_append, List.flatMap_append]
    rw [ht] at hr2
    simpa using hr2
  · have e : decide (64 < k + 1) = decide (64 < k) := by rw [show decide (64 < k + 1) = false by rw [decide_eq_false_iff_not]; omega, show decide (64 < k) = false by rw [decide_eq_false_iff_not]; omega]
    rw [e]
    exact keep h.ov (by decide) (by omega)
theorem ops_start (w : World) (s : ByteArray) : ∃ W5, (((((w.alloc (.cells #[.slice none 0 0] 22)).alloc (.cells #[.bool false] 4)).alloc (.cells #[.string s] 9)).alloc (.cells #[.string ⟨#[59]⟩] 9)).alloc (.cells #[.int .i64 0] 3)) = W5 ∧ W5.heap.size = w.heap.size + 5 ∧
    ∀ rec, OpsAt w [] (.slice none 0 0) 0 (.string s) rec ((W5.alloc (.deferred (some []))).alloc (.loop rec)) := by
  refine ⟨_, rfl, by simp, fun rec => ?_⟩
  have b0 := (((((Boxed.new w 22 (.slice none 0 0)).alloc (.cells #[.bool false] 4)).alloc (.cells #[.string s] 9)).alloc (.cells #[.string ⟨#[59]⟩] 9)).alloc (.cells #[.int .i64 0] 3))
  have b1 := ((((Boxed.new (w.alloc (.cells #[.slice none 0 0] 22)) 4 (.bool false)).alloc (.cells #[.string s] 9)).alloc (.cells #[.string ⟨#[59]⟩] 9)).alloc (.cells #[.int .i64 0] 3))
  have b2 := (((Boxed.new ((w.alloc (.cells #[.slice none 0 0] 22)).alloc (.cells #[.bool false] 4)) 9 (.string s)).alloc (.cells #[.string ⟨#[59]⟩] 9)).alloc (.cells #[.int .i64 0] 3))
  have b3 := ((Boxed.new (((w.alloc (.cells #[.slice none 0 0] 22)).alloc (.cells #[.bool false] 4)).alloc (.cells #[.string s] 9)) 9 (.string ⟨#[59]⟩)).alloc (.cells #[.int .i64 0] 3))
  have b4 := (Boxed.new ((((w.alloc (.cells #[.slice none 0 0] 22)).alloc (.cells #[.bool false] 4)).alloc (.cells #[.string s] 9)).alloc (.cells #[.string ⟨#[59]⟩] 9)) 3 (.int .i64 0))
  simp only [World.size_alloc] at b1 b2 b3 b4
  obtain ⟨W5, hW⟩ : ∃ W5, (((((w.alloc (.cells #[.slice none 0 0] 22)).alloc (.cells #[.bool false] 4)).alloc (.cells #[.string s] 9)).alloc (.cells #[.string ⟨#[59]⟩] 9)).alloc (.cells #[.int .i64 0] 3)) = W5 := ⟨_, rfl⟩
  have hs : W5.heap.size = w.heap.size + 5 := by rw [← hW]; simp
  have hB : Below w.heap.size w W5 := by
    rw [← hW]
    exact (((((Below.refl _ w).alloc (Nat.le_refl _) _).alloc (by simp) _).alloc (by simp; omega) _).alloc (by simp; omega) _).alloc (by simp; omega) _
  rw [hW] at b0 b1 b2 b3 b4 ⊢
  have d0 : ((W5.alloc (.deferred (some []))).alloc (.loop rec)).heap[w.heap.size + 5]? = some (.deferred (some [])) := by rw [← hs]; exact (Below.heap_alloc _ _ _ (by simp)).trans (World.alloc_heap_new W5 _)
  have d1 : ((W5.alloc (.deferred (some []))).alloc (.loop rec)).heap[w.heap.size + 6]? = some (.loop rec) := by
    have := World.alloc_heap_new (W5.alloc (.deferred (some []))) (.loop rec)
    rw [World.size_alloc, hs] at this; exact this
  exact ⟨(b0.alloc _).alloc _, World.ownsRow_nil _ _ _ _, (b1.alloc _).alloc _, (b2.alloc _).alloc _, (b3.alloc _).alloc _, (b4.alloc _).alloc _, d0, d1, (hB.alloc (by omega) _).alloc (by simp; omega) _⟩
theorem as_op (k r a z : Int) (w : World) : (Instr.typeAssert (.iface 24 (qv k r a z)) 71 24 false).run Tryd.prog w = .ok (qv k r a z) w := by kernel_rfl
theorem as_noOp (w : World) : (Instr.typeAssert .nilIface 71 24 false).run Tryd.prog w = .halt (.panic (.iface 15 (.pointer (some ⟨w.heap.size, 0, none⟩)))) (w.alloc (taErr (typeHandle Tryd.prog 71) (.pointer none) (typeHandle Tryd.prog 24))) := by kernel_rfl
theorem infoCop : (Tryd.prog.info? 24).map (fun i => (i.zero, i.size, i.bytes)) = some (some (.agg #[.int .i64 0, .int .i64 0, .int .i64 0, .int .i64 0]), 4, 32) := by kernel_rfl
end Go.Proofs.YtffdgkofolomlaaDoor
