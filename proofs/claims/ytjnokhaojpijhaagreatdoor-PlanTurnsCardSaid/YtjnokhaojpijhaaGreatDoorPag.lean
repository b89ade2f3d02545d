import Derived.Deep.RegionHeldLaw
import Derived.Deep.RegionLaw
import Derived.Deep.Cut
import Derived.Test.YtjnokhaojpijhaaGreatDoorPaf
import Derived.Test.YtjnokhaojpijhaaGreatDoorPad
import Derived.Test.YtjnokhaojpijhaaGreatDoorPac
import Derived.Test.YtjnokhaojpijhaaGreatDoorPab
import Derived.Test.YtjnokhaojpijhaaGreatDoorPaa
/- Layer code: sides, the texts of pieces and of ops. -/
namespace Go.Proofs.YtjnokhaojpijhaaGreatDoor
open Go.RowKit Go.Shelf Go.Proofs Go.Joins
abbrev regV (r : Int) : Value := .iface 270 (.int .i64 r)
abbrev plcV (r s : Int) : Value := .iface 272 (.agg #[.int .i64 r, .int .i64 s])
abbrev freV : Value := .iface 274 (.agg #[])
abbrev nonV : Value := .iface 275 (.agg #[])
theorem b2_newCd (w : World) (x y : Value) (t : TypeId) : ∃ w1, w.alloc (.cells #[x, y] t) = w1 ∧ Below w.heap.size w w1 ∧ w1.heap.size = w.heap.size + 1 ∧ w1.cell? ⟨w.heap.size, 0, none⟩ = some x ∧ w1.cell? ⟨w.heap.size, 1, none⟩ = some y ∧ w1.frozen? ⟨w.heap.size, 0, none⟩ = false ∧ w1.frozen? ⟨w.heap.size, 1, none⟩ = false :=
  ⟨_, rfl, (Below.refl _ _).alloc (Nat.le_refl _) _, by simp, cell_of_block (heap_alloc_new w _) 0, cell_of_block (heap_alloc_new w _) 1, unfrozen_of_block (heap_alloc_new w _) 0, unfrozen_of_block (heap_alloc_new w _) 1⟩
theorem below_drewCd {n : Nat} {a b : World} (h : Below n a b) : Below n a b.drew := ⟨h.os, h.tape, h.output, h.size, h.block⟩
set_option maxRecDepth 100000 in
set_option maxHeartbeats 2000000 in
theorem sides_1 (r a s : Int) (w : World) : Calls Tryz.prog 203 #[qv 1 r a s] w fun e w' => e = .returned (.tuple #[regV r, plcV a s]) ∧ Below w.heap.size w w' := by
  obtain ⟨w1, e1, hb1, hs1, X⟩ := b4_new w (.int .i64 1) (.int .i64 r) (.int .i64 a) (.int .i64 s) 106
  have HE1 := hide e1
  obtain ⟨X0, X1, X2, X3⟩ := X.all
  clear e1 X
  go_enter Tryz.func203, Tryz.ntmps203
  go_upto_region 1 with (fail)
  rw [HE1.out]
  refine wp_region_held_drew (S := fun w' => w'.cell? ⟨w.heap.size, 0, none⟩ = some (.int .i64 1) ∧ w'.cell? ⟨w.heap.size, 1, none⟩ = some (.int .i64 r) ∧ w'.cell? ⟨w.heap.size, 2, none⟩ = some (.int .i64 a) ∧ w'.cell? ⟨w.heap.size, 3, none⟩ = some (.int .i64 s)) (by kernel_rfl) ?_ (fun hHeld => ?_)
  · exact (by first | exact ⟨X0, X1, X2, X3⟩ | exact ⟨ckeep (cbal _ _) X0, ckeep (cbal _ _) X1, ckeep (cbal _ _) X2, ckeep (cbal _ _) X3⟩ | exact ⟨ckeep (below_drewCd (cbal _ _)) X0, ckeep (below_drewCd (cbal _ _)) X1, ckeep (below_drewCd (cbal _ _)) X2, ckeep (below_drewCd (cbal _ _)) X3⟩)
  refine tkH 0 ⟨some 6, .fieldAddr 106 (.tmp 1) 1, 0, "piece.go:59", #[], none⟩ (h := ?_)
  refine tkH 1 ⟨some 7, .load 3 (.tmp 6), 3, "piece.go:59", #[⟨0, .data⟩], none⟩ (h := ?_)
  refine tkH 2 ⟨some 8, .fieldAddr 106 (.tmp 1) 2, 0, "piece.go:59", #[⟨8, .gcOnly .lateStores⟩], none⟩ (h := ?_)
  refine tkH 3 ⟨some 9, .load 3 (.tmp 8), 3, "piece.go:59", #[⟨2, .data⟩, ⟨8, .gcOnly .lateStores⟩], none⟩ (h := ?_)
  refine tkH 4 ⟨some 10, .fieldAddr 106 (.tmp 1) 3, 0, "piece.go:59", #[⟨8, .gcOnly .lateStores⟩], none⟩ (h := ?_)
  refine tkH 5 ⟨some 11, .load 3 (.tmp 10), 3, "piece.go:59", #[⟨4, .data⟩, ⟨8, .gcOnly .lateStores⟩], none⟩ (h := ?_)
  refine tkH 6 ⟨some 12, .build 272 #[(0, .tmp 9), (1, .tmp 11)], 272, "piece.go:59", #[⟨3, .data⟩, ⟨5, .data⟩, ⟨8, .gcOnly .lateStores⟩], none⟩ (h := ?_)
  refine wpAnyH_ready (rs := [7]) (by kernel_rfl) (by simp) ?_
  refine AllReadyH.cons rfl (fun K hK => ?_) AllReadyH.nil
  go_simp
  (try go_simp)
  refine hK.out _ _ (by first | exact ⟨X0, X1, X2, X3⟩ | exact ⟨ckeep (cbal _ _) X0, ckeep (cbal _ _) X1, ckeep (cbal _ _) X2, ckeep (cbal _ _) X3⟩ | exact ⟨ckeep (below_drewCd (cbal _ _)) X0, ckeep (below_drewCd (cbal _ _)) X1, ckeep (below_drewCd (cbal _ _)) X2, ckeep (below_drewCd (cbal _ _)) X3⟩) (fun hHeld => ?_)
  (try simp only [Act.put, List.setIfInBounds_toArray, List.set_cons_zero, List.set_cons_succ])
  refine tkH 8 ⟨some 4, .assign (.tmp 7), 270, "piece.go:59", #[⟨1, .data⟩, ⟨0, .phase⟩, ⟨1, .phase⟩, ⟨2, .textOnly .lateStores⟩, ⟨3, .textOnly .lateStores⟩, ⟨4, .textOnly .lateStores⟩, ⟨5, .textOnly .lateStores⟩, ⟨6, .textOnly .lateStores⟩, ⟨7, .phase⟩], none⟩ (h := ?_)
  refine wpAnyH_ready (rs := [9]) (by kernel_rfl) (by simp) ?_
  refine AllReadyH.cons rfl (fun K hK => ?_) AllReadyH.nil
  go_simp
  (try go_simp)
  refine hK.out _ _ (by first | exact ⟨X0, X1, X2, X3⟩ | exact ⟨ckeep (cbal _ _) X0, ckeep (cbal _ _) X1, ckeep (cbal _ _) X2, ckeep (cbal _ _) X3⟩ | exact ⟨ckeep (below_drewCd (cbal _ _)) X0, ckeep (below_drewCd (cbal _ _)) X1, ckeep (below_drewCd (cbal _ _)) X2, ckeep (below_drewCd (cbal _ _)) X3⟩) (fun hHeld => ?_)
  (try simp only [Act.put, List.setIfInBounds_toArray, List.set_cons_zero, List.set_cons_succ])
  refine wpAnyH_done (by kernel_rfl) ?_ _
  obtain ⟨w2, e2, hb2, hs2, Y0, Y1, -, -⟩ := b2_newCd w1 (.int .i64 a) (.int .i64 s) 272
  obtain ⟨w3, e3⟩ : ∃ w3, w2.drew = w3 := ⟨_, rfl⟩
  have HB := hide (bcall hb1 (show Below w1.heap.size w1 w3 by rw [← e3]; exact below_drewCd hb2))
  rw [hs1] at Y0 Y1
  have K0 : w3.cell? ⟨w.heap.size, 0, none⟩ = some (.int .i64 1) := by rw [← e3]; exact (show w2.cell? _ = _ from ckeep hb2 X0)
  have Z0 : w3.cell? ⟨w.heap.size + 1, 0, none⟩ = some (.int .i64 a) := by rw [← e3]; exact (show w2.cell? _ = _ from Y0)
  have Z1 : w3.cell? ⟨w.heap.size + 1, 1, none⟩ = some (.int .i64 s) := by rw [← e3]; exact (show w2.cell? _ = _ from Y1)
  rw [e2, e3]
  clear X0 X1 X2 X3 Y0 Y1 hHeld hs1 hs2 hb1 hb2 e2 e3
  go_wp2
  refine wp_region_held_drew (S := fun w' => w'.cell? ⟨w.heap.size + 1, 0, none⟩ = some (.int .i64 a) ∧ w'.cell? ⟨w.heap.size + 1, 1, none⟩ = some (.int .i64 s)) (by kernel_rfl) ?_ (fun hHeld => ?_)
  · exact ⟨Z0, Z1⟩
  refine tkH 0 ⟨some 17, .move (.tmp 4), 270, "piece.go:62", #[], none⟩ (h := ?_)
  refine tkH 1 ⟨some 18, .makeInterface 270 (.tmp 17), 242, "piece.go:62", #[⟨0, .data⟩], none⟩ (h := ?_)
  refine tkH 2 ⟨some 19, .load 272 (.tmp 5), 272, "piece.go:62", #[], none⟩ (h := ?_)
  refine tkH 3 ⟨some 20, .makeInterface 272 (.tmp 19), 242, "piece.go:62", #[⟨2, .data⟩, ⟨4, .gcOnly .lateStores⟩], none⟩ (h := ?_)
  refine tkH 4 ⟨some 2, .assign (.tmp 18), 242, "piece.go:62", #[⟨1, .data⟩, ⟨0, .phase⟩, ⟨1, .phase⟩, ⟨2, .textOnly .lateStores⟩, ⟨3, .textOnly .lateStores⟩], none⟩ (h := ?_)
  refine tkH 5 ⟨some 3, .assign (.tmp 20), 242, "piece.go:62", #[⟨3, .data⟩, ⟨4, .chain⟩, ⟨0, .phase⟩, ⟨1, .phase⟩, ⟨2, .phase⟩, ⟨3, .phase⟩, ⟨4, .phase⟩], none⟩ (h := ?_)
  refine wpAnyH_done (by kernel_rfl) ?_ _
  go_wp2
  go_ret2
  exact ⟨rfl, below_drewCd HB.out⟩
set_option maxRecDepth 100000 in
set_option maxHeartbeats 2000000 in
theorem sides_2 (r a s : Int) (w : World) : Calls Tryz.prog 203 #[qv 2 r a s] w fun e w' => e = .returned (.tuple #[plcV a s, regV r]) ∧ Below w.heap.size w w' := by
  obtain ⟨w1, e1, hb1, hs1, X⟩ := b4_new w (.int .i64 2) (.int .i64 r) (.int .i64 a) (.int .i64 s) 106
  have HE1 := hide e1
  obtain ⟨X0, X1, X2, X3⟩ := X.all
  clear e1 X
  go_enter Tryz.func203, Tryz.ntmps203
  go_upto_region 1 with (fail)
  rw [HE1.out]
  refine wp_region_held_drew (S := fun w' => w'.cell? ⟨w.heap.size, 0, none⟩ = some (.int .i64 2) ∧ w'.cell? ⟨w.heap.size, 1, none⟩ = some (.int .i64 r) ∧ w'.cell? ⟨w.heap.size, 2, none⟩ = some (.int .i64 a) ∧ w'.cell? ⟨w.heap.size, 3, none⟩ = some (.int .i64 s)) (by kernel_rfl) ?_ (fun hHeld => ?_)
  · exact (by first | exact ⟨X0, X1, X2, X3⟩ | exact ⟨ckeep (cbal _ _) X0, ckeep (cbal _ _) X1, ckeep (cbal _ _) X2, ckeep (cbal _ _) X3⟩ | exact ⟨ckeep (below_drewCd (cbal _ _)) X0, ckeep (below_drewCd (cbal _ _)) X1, ckeep (below_drewCd (cbal _ _)) X2, ckeep (below_drewCd (cbal _ _)) X3⟩)
  refine tkH 0 ⟨some 6, .fieldAddr 106 (.tmp 1) 1, 0, "piece.go:59", #[], none⟩ (h := ?_)
  refine tkH 1 ⟨some 7, .load 3 (.tmp 6), 3, "piece.go:59", #[⟨0, .data⟩], none⟩ (h := ?_)
  refine tkH 2 ⟨some 8, .fieldAddr 106 (.tmp 1) 2, 0, "piece.go:59", #[⟨8, .gcOnly .lateStores⟩], none⟩ (h := ?_)
  refine tkH 3 ⟨some 9, .load 3 (.tmp 8), 3, "piece.go:59", #[⟨2, .data⟩, ⟨8, .gcOnly .lateStores⟩], none⟩ (h := ?_)
  refine tkH 4 ⟨some 10, .fieldAddr 106 (.tmp 1) 3, 0, "piece.go:59", #[⟨8, .gcOnly .lateStores⟩], none⟩ (h := ?_)
  refine tkH 5 ⟨some 11, .load 3 (.tmp 10), 3, "piece.go:59", #[⟨4, .data⟩, ⟨8, .gcOnly .lateStores⟩], none⟩ (h := ?_)
  refine tkH 6 ⟨some 12, .build 272 #[(0, .tmp 9), (1, .tmp 11)], 272, "piece.go:59", #[⟨3, .data⟩, ⟨5, .data⟩, ⟨8, .gcOnly .lateStores⟩], none⟩ (h := ?_)
  refine wpAnyH_ready (rs := [7]) (by kernel_rfl) (by simp) ?_
  refine AllReadyH.cons rfl (fun K hK => ?_) AllReadyH.nil
  go_simp
  (try go_simp)
  refine hK.out _ _ (by first | exact ⟨X0, X1, X2, X3⟩ | exact ⟨ckeep (cbal _ _) X0, ckeep (cbal _ _) X1, ckeep (cbal _ _) X2, ckeep (cbal _ _) X3⟩ | exact ⟨ckeep (below_drewCd (cbal _ _)) X0, ckeep (below_drewCd (cbal _ _)) X1, ckeep (below_drewCd (cbal _ _)) X2, ckeep (below_drewCd (cbal _ _)) X3⟩) (fun hHeld => ?_)
  (try simp only [Act.put, List.setIfInBounds_toArray, List.set_cons_zero, List.set_cons_succ])
  refine tkH 8 ⟨some 4, .assign (.tmp 7), 270, "piece.go:59", #[⟨1, .data⟩, ⟨0, .phase⟩, ⟨1, .phase⟩, ⟨2, .textOnly .lateStores⟩, ⟨3, .textOnly .lateStores⟩, ⟨4, .textOnly .lateStores⟩, ⟨5, .textOnly .lateStores⟩, ⟨6, .textOnly .lateStores⟩, ⟨7, .phase⟩], none⟩ (h := ?_)
  refine wpAnyH_ready (rs := [9]) (by kernel_rfl) (by simp) ?_
  refine AllReadyH.cons rfl (fun K hK => ?_) AllReadyH.nil
  go_simp
  (try go_simp)
  refine hK.out _ _ (by first | exact ⟨X0, X1, X2, X3⟩ | exact ⟨ckeep (cbal _ _) X0, ckeep (cbal _ _) X1, ckeep (cbal _ _) X2, ckeep (cbal _ _) X3⟩ | exact ⟨ckeep (below_drewCd (cbal _ _)) X0, ckeep (below_drewCd (cbal _ _)) X1, ckeep (below_drewCd (cbal _ _)) X2, ckeep (below_drewCd (cbal _ _)) X3⟩) (fun hHeld => ?_)
  (try simp only [Act.put, List.setIfInBounds_toArray, List.set_cons_zero, List.set_cons_succ])
  refine wpAnyH_done (by kernel_rfl) ?_ _
  obtain ⟨w2, e2, hb2, hs2, Y0, Y1, -, -⟩ := b2_newCd w1 (.int .i64 a) (.int .i64 s) 272
  obtain ⟨w3, e3⟩ : ∃ w3, w2.drew = w3 := ⟨_, rfl⟩
  have HB := hide (bcall hb1 (show Below w1.heap.size w1 w3 by rw [← e3]; exact below_drewCd hb2))
  rw [hs1] at Y0 Y1
  have K0 : w3.cell? ⟨w.heap.size, 0, none⟩ = some (.int .i64 2) := by rw [← e3]; exact (show w2.cell? _ = _ from ckeep hb2 X0)
  have Z0 : w3.cell? ⟨w.heap.size + 1, 0, none⟩ = some (.int .i64 a) := by rw [← e3]; exact (show w2.cell? _ = _ from Y0)
  have Z1 : w3.cell? ⟨w.heap.size + 1, 1, none⟩ = some (.int .i64 s) := by rw [← e3]; exact (show w2.cell? _ = _ from Y1)
  rw [e2, e3]
  clear X0 X1 X2 X3 Y0 Y1 hHeld hs1 hs2 hb1 hb2 e2 e3
  go_wp2
  go_ret2
  exact ⟨rfl, HB.out⟩
set_option maxRecDepth 100000 in
set_option maxHeartbeats 2000000 in
theorem sides_3 (r a s : Int) (w : World) : Calls Tryz.prog 203 #[qv 3 r a s] w fun e w' => e = .returned (.tuple #[regV r, freV]) ∧ Below w.heap.size w w' := by
  obtain ⟨w1, e1, hb1, hs1, X⟩ := b4_new w (.int .i64 3) (.int .i64 r) (.int .i64 a) (.int .i64 s) 106
  have HE1 := hide e1
  obtain ⟨X0, X1, X2, X3⟩ := X.all
  clear e1 X
  go_enter Tryz.func203, Tryz.ntmps203
  go_upto_region 1 with (fail)
  rw [HE1.out]
  refine wp_region_held_drew (S := fun w' => w'.cell? ⟨w.heap.size, 0, none⟩ = some (.int .i64 3) ∧ w'.cell? ⟨w.heap.size, 1, none⟩ = some (.int .i64 r) ∧ w'.cell? ⟨w.heap.size, 2, none⟩ = some (.int .i64 a) ∧ w'.cell? ⟨w.heap.size, 3, none⟩ = some (.int .i64 s)) (by kernel_rfl) ?_ (fun hHeld => ?_)
  · exact (by first | exact ⟨X0, X1, X2, X3⟩ | exact ⟨ckeep (cbal _ _) X0, ckeep (cbal _ _) X1, ckeep (cbal _ _) X2, ckeep (cbal _ _) X3⟩ | exact ⟨ckeep (below_drewCd (cbal _ _)) X0, ckeep (below_drewCd (cbal _ _)) X1, ckeep (below_drewCd (cbal _ _)) X2, ckeep (below_drewCd (cbal _ _)) X3⟩)
  refine tkH 0 ⟨some 6, .fieldAddr 106 (.tmp 1) 1, 0, "piece.go:59", #[], none⟩ (h := ?_)
  refine tkH 1 ⟨some 7, .load 3 (.tmp 6), 3, "piece.go:59", #[⟨0, .data⟩], none⟩ (h := ?_)
  refine tkH 2 ⟨some 8, .fieldAddr 106 (.tmp 1) 2, 0, "piece.go:59", #[⟨8, .gcOnly .lateStores⟩], none⟩ (h := ?_)
  refine tkH 3 ⟨some 9, .load 3 (.tmp 8), 3, "piece.go:59", #[⟨2, .data⟩, ⟨8, .gcOnly .lateStores⟩], none⟩ (h := ?_)
  refine tkH 4 ⟨some 10, .fieldAddr 106 (.tmp 1) 3, 0, "piece.go:59", #[⟨8, .gcOnly .lateStores⟩], none⟩ (h := ?_)
  refine tkH 5 ⟨some 11, .load 3 (.tmp 10), 3, "piece.go:59", #[⟨4, .data⟩, ⟨8, .gcOnly .lateStores⟩], none⟩ (h := ?_)
  refine tkH 6 ⟨some 12, .build 272 #[(0, .tmp 9), (1, .tmp 11)], 272, "piece.go:59", #[⟨3, .data⟩, ⟨5, .data⟩, ⟨8, .gcOnly .lateStores⟩], none⟩ (h := ?_)
  refine wpAnyH_ready (rs := [7]) (by kernel_rfl) (by simp) ?_
  refine AllReadyH.cons rfl (fun K hK => ?_) AllReadyH.nil
  go_simp
  (try go_simp)
  refine hK.out _ _ (by first | exact ⟨X0, X1, X2, X3⟩ | exact ⟨ckeep (cbal _ _) X0, ckeep (cbal _ _) X1, ckeep (cbal _ _) X2, ckeep (cbal _ _) X3⟩ | exact ⟨ckeep (below_drewCd (cbal _ _)) X0, ckeep (below_drewCd (cbal _ _)) X1, ckeep (below_drewCd (cbal _ _)) X2, ckeep (below_drewCd (cbal _ _)) X3⟩) (fun hHeld => ?_)
  (try simp only [Act.put, List.setIfInBounds_toArray, List.set_cons_zero, List.set_cons_succ])
  refine tkH 8 ⟨some 4, .assign (.tmp 7), 270, "piece.go:59", #[⟨1, .data⟩, ⟨0, .phase⟩, ⟨1, .phase⟩, ⟨2, .textOnly .lateStores⟩, ⟨3, .textOnly .lateStores⟩, ⟨4, .textOnly .lateStores⟩, ⟨5, .textOnly .lateStores⟩, ⟨6, .textOnly .lateStores⟩, ⟨7, .phase⟩], none⟩ (h := ?_)
  refine wpAnyH_ready (rs := [9]) (by kernel_rfl) (by simp) ?_
  refine AllReadyH.cons rfl (fun K hK => ?_) AllReadyH.nil
  go_simp
  (try go_simp)
  refine hK.out _ _ (by first | exact ⟨X0, X1, X2, X3⟩ | exact ⟨ckeep (cbal _ _) X0, ckeep (cbal _ _) X1, ckeep (cbal _ _) X2, ckeep (cbal _ _) X3⟩ | exact ⟨ckeep (below_drewCd (cbal _ _)) X0, ckeep (below_drewCd (cbal _ _)) X1, ckeep (below_drewCd (cbal _ _)) X2, ckeep (below_drewCd (cbal _ _)) X3⟩) (fun hHeld => ?_)
  (try simp only [Act.put, List.setIfInBounds_toArray, List.set_cons_zero, List.set_cons_succ])
  refine wpAnyH_done (by kernel_rfl) ?_ _
  obtain ⟨w2, e2, hb2, hs2, Y0, Y1, -, -⟩ := b2_newCd w1 (.int .i64 a) (.int .i64 s) 272
  obtain ⟨w3, e3⟩ : ∃ w3, w2.drew = w3 := ⟨_, rfl⟩
  have HB := hide (bcall hb1 (show Below w1.heap.size w1 w3 by rw [← e3]; exact below_drewCd hb2))
  rw [hs1] at Y0 Y1
  have K0 : w3.cell? ⟨w.heap.size, 0, none⟩ = some (.int .i64 3) := by rw [← e3]; exact (show w2.cell? _ = _ from ckeep hb2 X0)
  have Z0 : w3.cell? ⟨w.heap.size + 1, 0, none⟩ = some (.int .i64 a) := by rw [← e3]; exact (show w2.cell? _ = _ from Y0)
  have Z1 : w3.cell? ⟨w.heap.size + 1, 1, none⟩ = some (.int .i64 s) := by rw [← e3]; exact (show w2.cell? _ = _ from Y1)
  rw [e2, e3]
  clear X0 X1 X2 X3 Y0 Y1 hHeld hs1 hs2 hb1 hb2 e2 e3
  go_wp2
  go_ret2
  exact ⟨rfl, HB.out⟩
set_option maxRecDepth 100000 in
set_option maxHeartbeats 2000000 in
theorem sides_4 (r a s : Int) (w : World) : Calls Tryz.prog 203 #[qv 4 r a s] w fun e w' => e = .returned (.tuple #[regV r, regV a]) ∧ Below w.heap.size w w' := by
  obtain ⟨w1, e1, hb1, hs1, X⟩ := b4_new w (.int .i64 4) (.int .i64 r) (.int .i64 a) (.int .i64 s) 106
  have HE1 := hide e1
  obtain ⟨X0, X1, X2, X3⟩ := X.all
  clear e1 X
  go_enter Tryz.func203, Tryz.ntmps203
  go_upto_region 1 with (fail)
  rw [HE1.out]
  refine wp_region_held_drew (S := fun w' => w'.cell? ⟨w.heap.size, 0, none⟩ = some (.int .i64 4) ∧ w'.cell? ⟨w.heap.size, 1, none⟩ = some (.int .i64 r) ∧ w'.cell? ⟨w.heap.size, 2, none⟩ = some (.int .i64 a) ∧ w'.cell? ⟨w.heap.size, 3, none⟩ = some (.int .i64 s)) (by kernel_rfl) ?_ (fun hHeld => ?_)
  · exact (by first | exact ⟨X0, X1, X2, X3⟩ | exact ⟨ckeep (cbal _ _) X0, ckeep (cbal _ _) X1, ckeep (cbal _ _) X2, ckeep (cbal _ _) X3⟩ | exact ⟨ckeep (below_drewCd (cbal _ _)) X0, ckeep (below_drewCd (cbal _ _)) X1, ckeep (below_drewCd (cbal _ _)) X2, ckeep (below_drewCd (cbal _ _)) X3⟩)
  refine tkH 0 ⟨some 6, .fieldAddr 106 (.tmp 1) 1, 0, "piece.go:59", #[], none⟩ (h := ?_)
  refine tkH 1 ⟨some 7, .load 3 (.tmp 6), 3, "piece.go:59", #[⟨0, .data⟩], none⟩ (h := ?_)
  refine tkH 2 ⟨some 8, .fieldAddr 106 (.tmp 1) 2, 0, "piece.go:59", #[⟨8, .gcOnly .lateStores⟩], none⟩ (h := ?_)
  refine tkH 3 ⟨some 9, .load 3 (.tmp 8), 3, "piece.go:59", #[⟨2, .data⟩, ⟨8, .gcOnly .lateStores⟩], none⟩ (h := ?_)
  refine tkH 4 ⟨some 10, .fieldAddr 106 (.tmp 1) 3, 0, "piece.go:59", #[⟨8, .gcOnly .lateStores⟩], none⟩ (h := ?_)
  refine tkH 5 ⟨some 11, .load 3 (.tmp 10), 3, "piece.go:59", #[⟨4, .data⟩, ⟨8, .gcOnly .lateStores⟩], none⟩ (h := ?_)
  refine tkH 6 ⟨some 12, .build 272 #[(0, .tmp 9), (1, .tmp 11)], 272, "piece.go:59", #[⟨3, .data⟩, ⟨5, .data⟩, ⟨8, .gcOnly .lateStores⟩], none⟩ (h := ?_)
  refine wpAnyH_ready (rs := [7]) (by kernel_rfl) (by simp) ?_
  refine AllReadyH.cons rfl (fun K hK => ?_) AllReadyH.nil
  go_simp
  (try go_simp)
  refine hK.out _ _ (by first | exact ⟨X0, X1, X2, X3⟩ | exact ⟨ckeep (cbal _ _) X0, ckeep (cbal _ _) X1, ckeep (cbal _ _) X2, ckeep (cbal _ _) X3⟩ | exact ⟨ckeep (below_drewCd (cbal _ _)) X0, ckeep (below_drewCd (cbal _ _)) X1, ckeep (below_drewCd (cbal _ _)) X2, ckeep (below_drewCd (cbal _ _)) X3⟩) (fun hHeld => ?_)
  (try simp only [Act.put, List.setIfInBounds_toArray, List.set_cons_zero, List.set_cons_succ])
  refine tkH 8 ⟨some 4, .assign (.tmp 7), 270, "piece.go:59", #[⟨1, .data⟩, ⟨0, .phase⟩, ⟨1, .phase⟩, ⟨2, .textOnly .lateStores⟩, ⟨3, .textOnly .lateStores⟩, ⟨4, .textOnly .lateStores⟩, ⟨5, .textOnly .lateStores⟩, ⟨6, .textOnly .lateStores⟩, ⟨7, .phase⟩], none⟩ (h := ?_)
  refine wpAnyH_ready (rs := [9]) (by kernel_rfl) (by simp) ?_
  refine AllReadyH.cons rfl (fun K hK => ?_) AllReadyH.nil
  go_simp
  (try go_simp)
  refine hK.out _ _ (by first | exact ⟨X0, X1, X2, X3⟩ | exact ⟨ckeep (cbal _ _) X0, ckeep (cbal _ _) X1, ckeep (cbal _ _) X2, ckeep (cbal _ _) X3⟩ | exact ⟨ckeep (below_drewCd (cbal _ _)) X0, ckeep (below_drewCd (cbal _ _)) X1, ckeep (below_drewCd (cbal _ _)) X2, ckeep (below_drewCd (cbal _ _)) X3⟩) (fun hHeld => ?_)
  (try simp only [Act.put, List.setIfInBounds_toArray, List.set_cons_zero, List.set_cons_succ])
  refine wpAnyH_done (by kernel_rfl) ?_ _
  obtain ⟨w2, e2, hb2, hs2, Y0, Y1, -, -⟩ := b2_newCd w1 (.int .i64 a) (.int .i64 s) 272
  obtain ⟨w3, e3⟩ : ∃ w3, w2.drew = w3 := ⟨_, rfl⟩
  have HB := hide (bcall hb1 (show Below w1.heap.size w1 w3 by rw [← e3]; exact below_drewCd hb2))
  rw [hs1] at Y0 Y1
  have K0 : w3.cell? ⟨w.heap.size, 0, none⟩ = some (.int .i64 4) := by rw [← e3]; exact (show w2.cell? _ = _ from ckeep hb2 X0)
  have Z0 : w3.cell? ⟨w.heap.size + 1, 0, none⟩ = some (.int .i64 a) := by rw [← e3]; exact (show w2.cell? _ = _ from Y0)
  have Z1 : w3.cell? ⟨w.heap.size + 1, 1, none⟩ = some (.int .i64 s) := by rw [← e3]; exact (show w2.cell? _ = _ from Y1)
  rw [e2, e3]
  clear X0 X1 X2 X3 Y0 Y1 hHeld hs1 hs2 hb1 hb2 e2 e3
  go_wp2
  refine wp_region_held_drew (S := fun w' => w'.cell? ⟨w.heap.size + 1, 0, none⟩ = some (.int .i64 a) ∧ w'.cell? ⟨w.heap.size + 1, 1, none⟩ = some (.int .i64 s)) (by kernel_rfl) ?_ (fun hHeld => ?_)
  · exact ⟨Z0, Z1⟩
  refine tkH 0 ⟨some 35, .move (.tmp 4), 270, "piece.go:68", #[], none⟩ (h := ?_)
  refine tkH 1 ⟨some 36, .makeInterface 270 (.tmp 35), 242, "piece.go:68", #[⟨0, .data⟩], none⟩ (h := ?_)
  refine tkH 2 ⟨some 37, .fieldAddr 272 (.tmp 5) 0, 0, "piece.go:68", #[], none⟩ (h := ?_)
  refine tkH 3 ⟨some 38, .load 270 (.tmp 37), 270, "piece.go:68", #[⟨2, .data⟩], none⟩ (h := ?_)
  refine tkH 4 ⟨some 39, .makeInterface 270 (.tmp 38), 242, "piece.go:68", #[⟨3, .data⟩, ⟨5, .gcOnly .lateStores⟩], none⟩ (h := ?_)
  refine tkH 5 ⟨some 2, .assign (.tmp 36), 242, "piece.go:68", #[⟨1, .data⟩, ⟨0, .phase⟩, ⟨1, .phase⟩, ⟨2, .textOnly .lateStores⟩, ⟨3, .textOnly .lateStores⟩, ⟨4, .textOnly .lateStores⟩], none⟩ (h := ?_)
  refine tkH 6 ⟨some 3, .assign (.tmp 39), 242, "piece.go:68", #[⟨4, .data⟩, ⟨5, .chain⟩, ⟨0, .phase⟩, ⟨1, .phase⟩, ⟨2, .phase⟩, ⟨3, .phase⟩, ⟨4, .phase⟩, ⟨5, .phase⟩], none⟩ (h := ?_)
  refine wpAnyH_done (by kernel_rfl) ?_ _
  go_wp2
  go_ret2
  exact ⟨rfl, below_drewCd HB.out⟩
set_option maxRecDepth 100000 in
set_option maxHeartbeats 2000000 in
theorem sides_5 (r a s : Int) (w : World) : Calls Tryz.prog 203 #[qv 5 r a s] w fun e w' => e = .returned (.tuple #[regV r, nonV]) ∧ Below w.heap.size w w' := by
  obtain ⟨w1, e1, hb1, hs1, X⟩ := b4_new w (.int .i64 5) (.int .i64 r) (.int .i64 a) (.int .i64 s) 106
  have HE1 := hide e1
  obtain ⟨X0, X1, X2, X3⟩ := X.all
  clear e1 X
  go_enter Tryz.func203, Tryz.ntmps203
  go_upto_region 1 with (fail)
  rw [HE1.out]
  refine wp_region_held_drew (S := fun w' => w'.cell? ⟨w.heap.size, 0, none⟩ = some (.int .i64 5) ∧ w'.cell? ⟨w.heap.size, 1, none⟩ = some (.int .i64 r) ∧ w'.cell? ⟨w.heap.size, 2, none⟩ = some (.int .i64 a) ∧ w'.cell? ⟨w.heap.size, 3, none⟩ = some (.int .i64 s)) (by kernel_rfl) ?_ (fun hHeld => ?_)
  · exact (by first | exact ⟨X0, X1, X2, X3⟩ | exact ⟨ckeep (cbal _ _) X0, ckeep (cbal _ _) X1, ckeep (cbal _ _) X2, ckeep (cbal _ _) X3⟩ | exact ⟨ckeep (below_drewCd (cbal _ _)) X0, ckeep (below_drewCd (cbal _ _)) X1, ckeep (below_drewCd (cbal _ _)) X2, ckeep (below_drewCd (cbal _ _)) X3⟩)
  refine tkH 0 ⟨some 6, .fieldAddr 106 (.tmp 1) 1, 0, "piece.go:59", #[], none⟩ (h := ?_)
  refine tkH 1 ⟨some 7, .load 3 (.tmp 6), 3, "piece.go:59", #[⟨0, .data⟩], none⟩ (h := ?_)
  refine tkH 2 ⟨some 8, .fieldAddr 106 (.tmp 1) 2, 0, "piece.go:59", #[⟨8, .gcOnly .lateStores⟩], none⟩ (h := ?_)
  refine tkH 3 ⟨some 9, .load 3 (.tmp 8), 3, "piece.go:59", #[⟨2, .data⟩, ⟨8, .gcOnly .lateStores⟩], none⟩ (h := ?_)
  refine tkH 4 ⟨some 10, .fieldAddr 106 (.tmp 1) 3, 0, "piece.go:59", #[⟨8, .gcOnly .lateStores⟩], none⟩ (h := ?_)
  refine tkH 5 ⟨some 11, .load 3 (.tmp 10), 3, "piece.go:59", #[⟨4, .data⟩, ⟨8, .gcOnly .lateStores⟩], none⟩ (h := ?_)
  refine tkH 6 ⟨some 12, .build 272 #[(0, .tmp 9), (1, .tmp 11)], 272, "piece.go:59", #[⟨3, .data⟩, ⟨5, .data⟩, ⟨8, .gcOnly .lateStores⟩], none⟩ (h := ?_)
  refine wpAnyH_ready (rs := [7]) (by kernel_rfl) (by simp) ?_
  refine AllReadyH.cons rfl (fun K hK => ?_) AllReadyH.nil
  go_simp
  (try go_simp)
  refine hK.out _ _ (by first | exact ⟨X0, X1, X2, X3⟩ | exact ⟨ckeep (cbal _ _) X0, ckeep (cbal _ _) X1, ckeep (cbal _ _) X2, ckeep (cbal _ _) X3⟩ | exact ⟨ckeep (below_drewCd (cbal _ _)) X0, ckeep (below_drewCd (cbal _ _)) X1, ckeep (below_drewCd (cbal _ _)) X2, ckeep (below_drewCd (cbal _ _)) X3⟩) (fun hHeld => ?_)
  (try simp only [Act.put, List.setIfInBounds_toArray, List.set_cons_zero, List.set_cons_succ])
  refine tkH 8 ⟨some 4, .assign (.tmp 7), 270, "piece.go:59", #[⟨1, .data⟩, ⟨0, .phase⟩, ⟨1, .phase⟩, ⟨2, .textOnly .lateStores⟩, ⟨3, .textOnly .lateStores⟩, ⟨4, .textOnly .lateStores⟩, ⟨5, .textOnly .lateStores⟩, ⟨6, .textOnly .lateStores⟩, ⟨7, .phase⟩], none⟩ (h := ?_)
  refine wpAnyH_ready (rs := [9]) (by kernel_rfl) (by simp) ?_
  refine AllReadyH.cons rfl (fun K hK => ?_) AllReadyH.nil
  go_simp
  (try go_simp)
  refine hK.out _ _ (by first | exact ⟨X0, X1, X2, X3⟩ | exact ⟨ckeep (cbal _ _) X0, ckeep (cbal _ _) X1, ckeep (cbal _ _) X2, ckeep (cbal _ _) X3⟩ | exact ⟨ckeep (below_drewCd (cbal _ _)) X0, ckeep (below_drewCd (cbal _ _)) X1, ckeep (below_drewCd (cbal _ _)) X2, ckeep (below_drewCd (cbal _ _)) X3⟩) (fun hHeld => ?_)
  (try simp only [Act.put, List.setIfInBounds_toArray, List.set_cons_zero, List.set_cons_succ])
  refine wpAnyH_done (by kernel_rfl) ?_ _
  obtain ⟨w2, e2, hb2, hs2, Y0, Y1, -, -⟩ := b2_newCd w1 (.int .i64 a) (.int .i64 s) 272
  obtain ⟨w3, e3⟩ : ∃ w3, w2.drew = w3 := ⟨_, rfl⟩
  have HB := hide (bcall hb1 (show Below w1.heap.size w1 w3 by rw [← e3]; exact below_drewCd hb2))
  rw [hs1] at Y0 Y1
  have K0 : w3.cell? ⟨w.heap.size, 0, none⟩ = some (.int .i64 5) := by rw [← e3]; exact (show w2.cell? _ = _ from ckeep hb2 X0)
  have Z0 : w3.cell? ⟨w.heap.size + 1, 0, none⟩ = some (.int .i64 a) := by rw [← e3]; exact (show w2.cell? _ = _ from Y0)
  have Z1 : w3.cell? ⟨w.heap.size + 1, 1, none⟩ = some (.int .i64 s) := by rw [← e3]; exact (show w2.cell? _ = _ from Y1)
  rw [e2, e3]
  clear X0 X1 X2 X3 Y0 Y1 hHeld hs1 hs2 hb1 hb2 e2 e3
  go_wp2
  go_ret2
  exact ⟨rfl, HB.out⟩
theorem regText_any (r : Int) (h0 : 0 ≤ r) (h1 : r < 4) (w : World) : Calls Tryz.prog 267 #[.int .i64 r] w fun e w' => e = .returned (.string ⟨[cLet r].toArray⟩) ∧ w' = w := by
  have hr : r = 0 ∨ r = 1 ∨ r = 2 ∨ r = 3 := by omega
  clear h0 h1
  rcases hr with rfl | rfl | rfl | rfl
  · have hc : ∀ w, (convert 21 9 (.int .i32 65)).run Tryz.prog w = .ok (.string ⟨[65].toArray⟩) w := fun _ => by kernel_rfl
    go_enter Tryz.func267, Tryz.ntmps267
    go_wp2
    go_ret
    exact ⟨rfl, rfl⟩
  · have hc : ∀ w, (convert 21 9 (.int .i32 66)).run Tryz.prog w = .ok (.string ⟨[66].toArray⟩) w := fun _ => by kernel_rfl
    go_enter Tryz.func267, Tryz.ntmps267
    go_wp2
    go_ret
    exact ⟨rfl, rfl⟩
  · have hc : ∀ w, (convert 21 9 (.int .i32 67)).run Tryz.prog w = .ok (.string ⟨[67].toArray⟩) w := fun _ => by kernel_rfl
    go_enter Tryz.func267, Tryz.ntmps267
    go_wp2
    go_ret
    exact ⟨rfl, rfl⟩
  · have hc : ∀ w, (convert 21 9 (.int .i32 68)).run Tryz.prog w = .ok (.string ⟨[68].toArray⟩) w := fun _ => by kernel_rfl
    go_enter Tryz.func267, Tryz.ntmps267
    go_wp2
    go_ret
    exact ⟨rfl, rfl⟩
theorem dd_dig (n : Nat) (h : n < 4) : Go.Lib.decDigits n = [cDig (n : Int)] := by
  have hn : n = 0 ∨ n = 1 ∨ n = 2 ∨ n = 3 := by omega
  rcases hn with rfl | rfl | rfl | rfl <;> decide +kernel
set_option maxRecDepth 100000 in
set_option maxHeartbeats 1000000 in
theorem plcText_any (r s : Int) (h0 : 0 ≤ r) (h1 : r < 4) (s0 : 0 ≤ s) (s1 : s < 4) (w : World) : Calls Tryz.prog 268 #[.agg #[.int .i64 r, .int .i64 s]] w fun e w' => e = .returned (.string ⟨[cLet r, 46, cDig s].toArray⟩) ∧ Below w.heap.size w w' := by
  obtain ⟨n, rfl⟩ : ∃ n : Nat, s = n := ⟨s.toNat, by omega⟩
  have HI := hide (Tryz.strconv_Itoa_small n (by omega))
  have HD := hide (dd_dig n (by omega))
  have HR := hide (show 0 ≤ r ∧ r < 4 from ⟨h0, h1⟩)
  clear h0 h1 s0 s1
  obtain ⟨w1, e1, hb1, hs1, X0, X1, -, -⟩ := b2_newCd w (.int .i64 r) (.int .i64 (n : Nat)) 272
  have HE1 := hide e1
  clear e1 hs1
  go_enter Tryz.func268, Tryz.ntmps268
  go_upto_region 1 with (fail)
  rw [HE1.out]
  refine wp_region_held_drew (S := fun w' => w'.cell? ⟨w.heap.size, 0, none⟩ = some (.int .i64 r) ∧ w'.cell? ⟨w.heap.size, 1, none⟩ = some (.int .i64 (n : Nat))) (by kernel_rfl) ?_ (fun hHeld => ?_)
  · exact ⟨X0, X1⟩
  refine tkH 0 ⟨some 3, .fieldAddr 272 (.tmp 1) 0, 0, "piece.go:43", #[], none⟩ (h := ?_)
  refine tkH 1 ⟨some 4, .load 270 (.tmp 3), 270, "piece.go:43", #[⟨0, .data⟩], none⟩ (h := ?_)
  refine tkH 4 ⟨some 7, .fieldAddr 272 (.tmp 1) 1, 0, "piece.go:43", #[], none⟩ (h := ?_)
  refine tkH 5 ⟨some 8, .load 3 (.tmp 7), 3, "piece.go:43", #[⟨4, .data⟩], none⟩ (h := ?_)
  refine wpAnyH_ready (rs := [2]) (by kernel_rfl) (by simp) ?_
  refine AllReadyH.cons rfl (fun K hK => ?_) AllReadyH.nil
  go_simp
  go_at_call 267
  (with_reducible refine (regText_any r HR.out.1 HR.out.2 _).mono ?_)
  rintro e _ ⟨rfl, rfl⟩
  (try go_simp)
  refine hK.out _ _ ⟨X0, X1⟩ (fun hHeld => ?_)
  (try simp only [Act.put, List.setIfInBounds_toArray, List.set_cons_zero, List.set_cons_succ])
  refine tkH 3 ⟨some 6, .binOp .add 9 (.tmp 5) (.const (.string { data := #[46] })) 9, 9, "piece.go:43", #[⟨2, .data⟩], none⟩ (h := ?_)
  refine wpAnyH_ready (rs := [6]) (by kernel_rfl) (by simp) ?_
  refine AllReadyH.cons rfl (fun K hK => ?_) AllReadyH.nil
  go_simp
  go_at_call 157
  refine (HI.out _).mono ?_
  rintro e _ ⟨rfl, rfl⟩
  rw [HD.out]
  (try go_simp)
  refine hK.out _ _ ⟨X0, X1⟩ (fun hHeld => ?_)
  (try simp only [Act.put, List.setIfInBounds_toArray, List.set_cons_zero, List.set_cons_succ])
  refine tkH 7 ⟨some 10, .binOp .add 9 (.tmp 6) (.tmp 9) 9, 9, "piece.go:43", #[⟨3, .data⟩, ⟨6, .data⟩], none⟩ (h := ?_)
  refine tkH 8 ⟨some 2, .assign (.tmp 10), 9, "piece.go:43", #[⟨7, .data⟩, ⟨6, .chain⟩, ⟨0, .phase⟩, ⟨1, .phase⟩, ⟨2, .phase⟩, ⟨3, .phase⟩, ⟨4, .phase⟩, ⟨5, .phase⟩, ⟨6, .phase⟩, ⟨7, .phase⟩], none⟩ (h := ?_)
  refine wpAnyH_done (by kernel_rfl) ?_ _
  go_wp2
  go_ret
  refine ⟨cret ?_, below_drewCd hb1⟩
  apply ByteArray.ext
  simp [ByteArray.data_append]
theorem freshText_any (w : World) : Calls Tryz.prog 269 #[.agg #[]] w fun e w' => e = .returned (.string ⟨[110, 101, 119].toArray⟩) ∧ Below w.heap.size w w' := by
  go_enter Tryz.func269, Tryz.ntmps269
  go_wp2
  go_ret
  exact ⟨rfl, cbal _ _⟩
theorem noneText_any (w : World) : Calls Tryz.prog 270 #[.agg #[]] w fun e w' => e = .returned (.string ⟨[48].toArray⟩) ∧ Below w.heap.size w w' := by
  go_enter Tryz.func270, Tryz.ntmps270
  go_wp2
  go_ret
  exact ⟨rfl, cbal _ _⟩
set_option maxRecDepth 100000 in
set_option maxHeartbeats 1000000 in
theorem opText_no (k r a s : Int) (h : cRight ⟨k, r, a, s⟩ 4 4 = false) (w : World) : Calls Tryz.prog 187 #[qv k r a s] w fun e w' => e = .returned (.string ⟨(cText ⟨k, r, a, s⟩).toArray⟩) ∧ Below w.heap.size w w' := by
  have H := hide h
  have EF := hide (show cText ⟨k, r, a, s⟩ = [63] from (text_no _).2 h)
  clear h
  obtain ⟨w1, e1, hb1, hs1, X⟩ := b4_new w (.int .i64 k) (.int .i64 r) (.int .i64 a) (.int .i64 s) 106
  have HE1 := hide e1
  obtain ⟨X0, X1, X2, X3⟩ := X.all
  clear e1 X
  go_enter Tryz.func187, Tryz.ntmps187
  go_upto_region 1 with (fail)
  rw [HE1.out]
  go_wp2_with fail
  (with_reducible refine (Right_anyCd k r a s 4 4 _).mono ?_)
  rintro e w2 ⟨rfl, hb2⟩
  rw [H.out]
  have hB := bcall hb1 hb2
  go_wp2
  go_ret
  exact ⟨cret (by rw [EF.out]), hB⟩
set_option maxRecDepth 100000 in
set_option maxHeartbeats 2000000 in
theorem opText_1 (r a s : Int) (h : cRight ⟨1, r, a, s⟩ 4 4 = true) (w : World) : Calls Tryz.prog 187 #[qv 1 r a s] w fun e w' => e = .returned (.string ⟨(cText ⟨1, r, a, s⟩).toArray⟩) ∧ Below w.heap.size w w' := by
  have H := hide h
  obtain ⟨⟨r0, r1⟩, ⟨a0, a1⟩, ⟨s0, s1⟩, -⟩ := cRight_rng h
  have HR := hide (show 0 ≤ r ∧ r < 4 from ⟨r0, r1⟩)
  have HA := hide (show 0 ≤ a ∧ a < 4 from ⟨a0, a1⟩)
  have HS := hide (show 0 ≤ s ∧ s < 4 from ⟨s0, s1⟩)
  have EF := hide (show cText ⟨1, r, a, s⟩ = [cLet r, 61, cLet a, 46, cDig s] by unfold cText; rw [h]; rfl)
  clear h r0 r1 a0 a1 s0 s1
  have hm0 : ∀ w, (method 242 270 (.int .i64 r) "besom/code.text").run Tryz.prog w = .ok (267, (.int .i64 r)) w := fun _ => by kernel_rfl
  have hm1 : ∀ w, (method 242 272 (.agg #[.int .i64 a, .int .i64 s]) "besom/code.text").run Tryz.prog w = .ok (268, (.agg #[.int .i64 a, .int .i64 s])) w := fun _ => by kernel_rfl
  obtain ⟨w1, e1, hb1, hs1, X⟩ := b4_new w (.int .i64 1) (.int .i64 r) (.int .i64 a) (.int .i64 s) 106
  have HE1 := hide e1
  have HX := hide X
  obtain ⟨X0, X1, X2, X3⟩ := X.all
  clear e1 X
  go_enter Tryz.func187, Tryz.ntmps187
  go_upto_region 1 with (fail)
  rw [HE1.out]
  go_wp2_with fail
  (with_reducible refine (Right_anyCd 1 r a s 4 4 _).mono ?_)
  rintro e w2 ⟨rfl, hb2⟩
  rw [H.out]
  have HX2 := hide (HX.out.below hb2)
  have hB := bcall hb1 hb2
  clear X0 X1 X2 X3
  obtain ⟨X0, X1, X2, X3⟩ := HX2.out.all
  go_wp2_with fail
  (with_reducible refine (sides_1 r a s _).mono ?_)
  rintro e w3 ⟨rfl, hb3⟩
  replace hB := bcall hB hb3
  clear X0 X1 X2 X3
  go_wp2_with fail
  (with_reducible refine (regText_any r HR.out.1 HR.out.2 _).mono ?_)
  rintro e _ ⟨rfl, rfl⟩
  go_wp2_with fail
  (with_reducible refine (plcText_any a s HA.out.1 HA.out.2 HS.out.1 HS.out.2 _).mono ?_)
  rintro e w6 ⟨rfl, hb6⟩
  replace hB := bcall hB hb6
  go_wp2
  go_ret
  refine ⟨cret ?_, hB⟩
  rw [EF.out]
  apply ByteArray.ext
  simp [ByteArray.data_append]
set_option maxRecDepth 100000 in
set_option maxHeartbeats 2000000 in
theorem opText_2 (r a s : Int) (h : cRight ⟨2, r, a, s⟩ 4 4 = true) (w : World) : Calls Tryz.prog 187 #[qv 2 r a s] w fun e w' => e = .returned (.string ⟨(cText ⟨2, r, a, s⟩).toArray⟩) ∧ Below w.heap.size w w' := by
  have H := hide h
  obtain ⟨⟨r0, r1⟩, ⟨a0, a1⟩, ⟨s0, s1⟩, -⟩ := cRight_rng h
  have HR := hide (show 0 ≤ r ∧ r < 4 from ⟨r0, r1⟩)
  have HA := hide (show 0 ≤ a ∧ a < 4 from ⟨a0, a1⟩)
  have HS := hide (show 0 ≤ s ∧ s < 4 from ⟨s0, s1⟩)
  have EF := hide (show cText ⟨2, r, a, s⟩ = [cLet a, 46, cDig s, 61, cLet r] by unfold cText; rw [h]; rfl)
  clear h r0 r1 a0 a1 s0 s1
  have hm0 : ∀ w, (method 242 272 (.agg #[.int .i64 a, .int .i64 s]) "besom/code.text").run Tryz.prog w = .ok (268, (.agg #[.int .i64 a, .int .i64 s])) w := fun _ => by kernel_rfl
  have hm1 : ∀ w, (method 242 270 (.int .i64 r) "besom/code.text").run Tryz.prog w = .ok (267, (.int .i64 r)) w := fun _ => by kernel_rfl
  obtain ⟨w1, e1, hb1, hs1, X⟩ := b4_new w (.int .i64 2) (.int .i64 r) (.int .i64 a) (.int .i64 s) 106
  have HE1 := hide e1
  have HX := hide X
  obtain ⟨X0, X1, X2, X3⟩ := X.all
  clear e1 X
  go_enter Tryz.func187, Tryz.ntmps187
  go_upto_region 1 with (fail)
  rw [HE1.out]
  go_wp2_with fail
  (with_reducible refine (Right_anyCd 2 r a s 4 4 _).mono ?_)
  rintro e w2 ⟨rfl, hb2⟩
  rw [H.out]
  have HX2 := hide (HX.out.below hb2)
  have hB := bcall hb1 hb2
  clear X0 X1 X2 X3
  obtain ⟨X0, X1, X2, X3⟩ := HX2.out.all
  go_wp2_with fail
  (with_reducible refine (sides_2 r a s _).mono ?_)
  rintro e w3 ⟨rfl, hb3⟩
  replace hB := bcall hB hb3
  clear X0 X1 X2 X3
  go_wp2_with fail
  (with_reducible refine (plcText_any a s HA.out.1 HA.out.2 HS.out.1 HS.out.2 _).mono ?_)
  rintro e w5 ⟨rfl, hb5⟩
  replace hB := bcall hB hb5
  go_wp2_with fail
  (with_reducible refine (regText_any r HR.out.1 HR.out.2 _).mono ?_)
  rintro e _ ⟨rfl, rfl⟩
  go_wp2
  go_ret
  refine ⟨cret ?_, hB⟩
  rw [EF.out]
  apply ByteArray.ext
  simp [ByteArray.data_append]
set_option maxRecDepth 100000 in
set_option maxHeartbeats 2000000 in
theorem opText_3 (r a s : Int) (h : cRight ⟨3, r, a, s⟩ 4 4 = true) (w : World) : Calls Tryz.prog 187 #[qv 3 r a s] w fun e w' => e = .returned (.string ⟨(cText ⟨3, r, a, s⟩).toArray⟩) ∧ Below w.heap.size w w' := by
  have H := hide h
  obtain ⟨⟨r0, r1⟩, ⟨a0, a1⟩, ⟨s0, s1⟩, -⟩ := cRight_rng h
  have HR := hide (show 0 ≤ r ∧ r < 4 from ⟨r0, r1⟩)
  have HA := hide (show 0 ≤ a ∧ a < 4 from ⟨a0, a1⟩)
  have HS := hide (show 0 ≤ s ∧ s < 4 from ⟨s0, s1⟩)
  have EF := hide (show cText ⟨3, r, a, s⟩ = [cLet r, 61, 110, 101, 119] by unfold cText; rw [h]; rfl)
  clear h r0 r1 a0 a1 s0 s1
  have hm0 : ∀ w, (method 242 270 (.int .i64 r) "besom/code.text").run Tryz.prog w = .ok (267, (.int .i64 r)) w := fun _ => by kernel_rfl
  have hm1 : ∀ w, (method 242 274 (.agg #[]) "besom/code.text").run Tryz.prog w = .ok (269, (.agg #[])) w := fun _ => by kernel_rfl
  obtain ⟨w1, e1, hb1, hs1, X⟩ := b4_new w (.int .i64 3) (.int .i64 r) (.int .i64 a) (.int .i64 s) 106
  have HE1 := hide e1
  have HX := hide X
  obtain ⟨X0, X1, X2, X3⟩ := X.all
  clear e1 X
  go_enter Tryz.func187, Tryz.ntmps187
  go_upto_region 1 with (fail)
  rw [HE1.out]
  go_wp2_with fail
  (with_reducible refine (Right_anyCd 3 r a s 4 4 _).mono ?_)
  rintro e w2 ⟨rfl, hb2⟩
  rw [H.out]
  have HX2 := hide (HX.out.below hb2)
  have hB := bcall hb1 hb2
  clear X0 X1 X2 X3
  obtain ⟨X0, X1, X2, X3⟩ := HX2.out.all
  go_wp2_with fail
  (with_reducible refine (sides_3 r a s _).mono ?_)
  rintro e w3 ⟨rfl, hb3⟩
  replace hB := bcall hB hb3
  clear X0 X1 X2 X3
  go_wp2_with fail
  (with_reducible refine (regText_any r HR.out.1 HR.out.2 _).mono ?_)
  rintro e _ ⟨rfl, rfl⟩
  go_wp2_with fail
  (with_reducible refine (freshText_any _).mono ?_)
  rintro e w6 ⟨rfl, hb6⟩
  replace hB := bcall hB hb6
  go_wp2
  go_ret
  refine ⟨cret ?_, hB⟩
  rw [EF.out]
  apply ByteArray.ext
  simp [ByteArray.data_append]
set_option maxRecDepth 100000 in
set_option maxHeartbeats 2000000 in
theorem opText_4 (r a s : Int) (h : cRight ⟨4, r, a, s⟩ 4 4 = true) (w : World) : Calls Tryz.prog 187 #[qv 4 r a s] w fun e w' => e = .returned (.string ⟨(cText ⟨4, r, a, s⟩).toArray⟩) ∧ Below w.heap.size w w' := by
  have H := hide h
  obtain ⟨⟨r0, r1⟩, ⟨a0, a1⟩, ⟨s0, s1⟩, -⟩ := cRight_rng h
  have HR := hide (show 0 ≤ r ∧ r < 4 from ⟨r0, r1⟩)
  have HA := hide (show 0 ≤ a ∧ a < 4 from ⟨a0, a1⟩)
  have HS := hide (show 0 ≤ s ∧ s < 4 from ⟨s0, s1⟩)
  have EF := hide (show cText ⟨4, r, a, s⟩ = [cLet r, 61, cLet a] by unfold cText; rw [h]; rfl)
  clear h r0 r1 a0 a1 s0 s1
  have hm0 : ∀ w, (method 242 270 (.int .i64 r) "besom/code.text").run Tryz.prog w = .ok (267, (.int .i64 r)) w := fun _ => by kernel_rfl
  have hm1 : ∀ w, (method 242 270 (.int .i64 a) "besom/code.text").run Tryz.prog w = .ok (267, (.int .i64 a)) w := fun _ => by kernel_rfl
  obtain ⟨w1, e1, hb1, hs1, X⟩ := b4_new w (.int .i64 4) (.int .i64 r) (.int .i64 a) (.int .i64 s) 106
  have HE1 := hide e1
  have HX := hide X
  obtain ⟨X0, X1, X2, X3⟩ := X.all
  clear e1 X
  go_enter Tryz.func187, Tryz.ntmps187
  go_upto_region 1 with (fail)
  rw [HE1.out]
  go_wp2_with fail
  (with_reducible refine (Right_anyCd 4 r a s 4 4 _).mono ?_)
  rintro e w2 ⟨rfl, hb2⟩
  rw [H.out]
  have HX2 := hide (HX.out.below hb2)
  have hB := bcall hb1 hb2
  clear X0 X1 X2 X3
  obtain ⟨X0, X1, X2, X3⟩ := HX2.out.all
  go_wp2_with fail
  (with_reducible refine (sides_4 r a s _).mono ?_)
  rintro e w3 ⟨rfl, hb3⟩
  replace hB := bcall hB hb3
  clear X0 X1 X2 X3
  go_wp2_with fail
  (with_reducible refine (regText_any r HR.out.1 HR.out.2 _).mono ?_)
  rintro e _ ⟨rfl, rfl⟩
  go_wp2_with fail
  (with_reducible refine (regText_any a HA.out.1 HA.out.2 _).mono ?_)
  rintro e _ ⟨rfl, rfl⟩
  go_wp2
  go_ret
  refine ⟨cret ?_, hB⟩
  rw [EF.out]
  apply ByteArray.ext
  simp [ByteArray.data_append]
set_option maxRecDepth 100000 in
set_option maxHeartbeats 2000000 in
theorem opText_5 (r a s : Int) (h : cRight ⟨5, r, a, s⟩ 4 4 = true) (w : World) : Calls Tryz.prog 187 #[qv 5 r a s] w fun e w' => e = .returned (.string ⟨(cText ⟨5, r, a, s⟩).toArray⟩) ∧ Below w.heap.size w w' := by
  have H := hide h
  obtain ⟨⟨r0, r1⟩, ⟨a0, a1⟩, ⟨s0, s1⟩, -⟩ := cRight_rng h
  have HR := hide (show 0 ≤ r ∧ r < 4 from ⟨r0, r1⟩)
  have HA := hide (show 0 ≤ a ∧ a < 4 from ⟨a0, a1⟩)
  have HS := hide (show 0 ≤ s ∧ s < 4 from ⟨s0, s1⟩)
  have EF := hide (show cText ⟨5, r, a, s⟩ = [cLet r, 61, 48] by unfold cText; rw [h]; rfl)
  clear h r0 r1 a0 a1 s0 s1
  have hm0 : ∀ w, (method 242 270 (.int .i64 r) "besom/code.text").run Tryz.prog w = .ok (267, (.int .i64 r)) w := fun _ => by kernel_rfl
  have hm1 : ∀ w, (method 242 275 (.agg #[]) "besom/code.text").run Tryz.prog w = .ok (270, (.agg #[])) w := fun _ => by kernel_rfl
  obtain ⟨w1, e1, hb1, hs1, X⟩ := b4_new w (.int .i64 5) (.int .i64 r) (.int .i64 a) (.int .i64 s) 106
  have HE1 := hide e1
  have HX := hide X
  obtain ⟨X0, X1, X2, X3⟩ := X.all
  clear e1 X
  go_enter Tryz.func187, Tryz.ntmps187
  go_upto_region 1 with (fail)
  rw [HE1.out]
  go_wp2_with fail
  (with_reducible refine (Right_anyCd 5 r a s 4 4 _).mono ?_)
  rintro e w2 ⟨rfl, hb2⟩
  rw [H.out]
  have HX2 := hide (HX.out.below hb2)
  have hB := bcall hb1 hb2
  clear X0 X1 X2 X3
  obtain ⟨X0, X1, X2, X3⟩ := HX2.out.all
  go_wp2_with fail
  (with_reducible refine (sides_5 r a s _).mono ?_)
  rintro e w3 ⟨rfl, hb3⟩
  replace hB := bcall hB hb3
  clear X0 X1 X2 X3
  go_wp2_with fail
  (with_reducible refine (regText_any r HR.out.1 HR.out.2 _).mono ?_)
  rintro e _ ⟨rfl, rfl⟩
  go_wp2_with fail
  (with_reducible refine (noneText_any _).mono ?_)
  rintro e w6 ⟨rfl, hb6⟩
  replace hB := bcall hB hb6
  go_wp2
  go_ret
  refine ⟨cret ?_, hB⟩
  rw [EF.out]
  apply ByteArray.ext
  simp [ByteArray.data_append]
theorem opText_any (k r a s : Int) (w : World) : Calls Tryz.prog 187 #[qv k r a s] w fun e w' => e = .returned (.string ⟨(cText ⟨k, r, a, s⟩).toArray⟩) ∧ Below w.heap.size w w' := by
  cases h : cRight ⟨k, r, a, s⟩ 4 4
  · exact opText_no k r a s h w
  · obtain ⟨-, -, -, hk⟩ := cRight_rng h
    rcases hk with rfl | rfl | rfl | rfl | rfl
    · exact opText_1 r a s h w
    · exact opText_2 r a s h w
    · exact opText_3 r a s h w
    · exact opText_4 r a s h w
    · exact opText_5 r a s h w
set_option maxHeartbeats 1000000 in
theorem Text_anyCd (k r a s : Int) (w : World) : Calls Tryz.prog 158 #[qv k r a s] w fun e w' => e = .returned (.string ⟨(cText ⟨k, r, a, s⟩).toArray⟩) ∧ Below w.heap.size w w' := by
  obtain ⟨w1, e1, hb1, hs1, X⟩ := b4_new w (.int .i64 k) (.int .i64 r) (.int .i64 a) (.int .i64 s) 106
  have HE1 := hide e1
  obtain ⟨X0, X1, X2, X3⟩ := X.all
  clear e1 X
  go_enter Tryz.func158, Tryz.ntmps158
  go_upto_region 1 with (fail)
  rw [HE1.out]
  go_wp2_with fail
  (with_reducible refine (opText_any k r a s _).mono ?_)
  rintro e w2 ⟨rfl, hb2⟩
  go_wp2
  go_ret
  exact ⟨rfl, bcall hb1 hb2⟩
end Go.Proofs.YtjnokhaojpijhaaGreatDoor
/- Layer code: side. -/
namespace Go.Proofs.YtjnokhaojpijhaaGreatDoor
open Go.RowKit Go.Shelf Go.Proofs
def sdV : Sd → Value
  | .reg x => regV x
  | .plc x y => plcV x y
  | .fre => freV
  | .non => nonV
  | .bad => .nilIface
theorem ba_list (s : ByteArray) : s.toList = s.data.toList := ByteArray.toList_eq s
theorem ba_one {s : ByteArray} {b : UInt8} (h : s.data.toList = [b]) : s.size = 1 ∧ ∀ k : 0 < s.size, ((s[0]'k).toNat : Int) = b.toNat := by
  obtain ⟨⟨l⟩⟩ := s
  simp only at h
  subst h
  exact ⟨rfl, fun _ => rfl⟩
theorem ba_three {s : ByteArray} {a m b : UInt8} (h : s.data.toList = [a, m, b]) : s.size = 3 ∧ (∀ k : 0 < s.size, ((s[0]'k).toNat : Int) = a.toNat) ∧ (∀ k : 1 < s.size, ((s[1]'k).toNat : Int) = m.toNat) ∧ ∀ k : 2 < s.size, ((s[2]'k).toNat : Int) = b.toNat := by
  obtain ⟨⟨l⟩⟩ := s
  simp only at h
  subst h
  exact ⟨rfl, fun _ => rfl, fun _ => rfl, fun _ => rfl⟩
theorem ba_len (s : ByteArray) : s.data.toList.length = s.size := by rw [Array.length_toList]; rfl
theorem u8_rng (b : UInt8) : 0 ≤ (b.toNat : Int) ∧ (b.toNat : Int) ≤ 255 := by have := b.toNat_lt; omega
set_option maxRecDepth 100000 in
set_option maxHeartbeats 1000000 in
theorem side_new (s : ByteArray) (w : World) (h : s.data.toList = [110, 101, 119]) : Calls Tryz.prog 218 #[.string s] w fun e w' => e = .returned (freV) ∧ Below w.heap.size w w' := by
  have q1 : (s.toList == [110, 101, 119]) = true := by rw [ba_list, h]; decide
  clear h
  go_enter Tryz.func218, Tryz.ntmps218
  go_wp2
  go_ret
  exact ⟨rfl, Below.refl _ _⟩
set_option maxRecDepth 100000 in
set_option maxHeartbeats 1000000 in
theorem side_none (s : ByteArray) (w : World) (h : s.data.toList = [48]) : Calls Tryz.prog 218 #[.string s] w fun e w' => e = .returned (nonV) ∧ Below w.heap.size w w' := by
  have q1 : (s.toList == [110, 101, 119]) = false := by rw [ba_list, h]; decide
  have q2 : (s.toList == [48]) = true := by rw [ba_list, h]; decide
  clear h
  go_enter Tryz.func218, Tryz.ntmps218
  go_wp2
  go_ret
  exact ⟨rfl, Below.refl _ _⟩
set_option maxRecDepth 100000 in
set_option maxHeartbeats 1000000 in
theorem side_one (s : ByteArray) (w : World) (b : UInt8) (h : s.data.toList = [b]) (hb : b ≠ 48) : Calls Tryz.prog 218 #[.string s] w fun e w' => e = .returned (regV ((b.toNat : Int) - 65)) ∧ Below w.heap.size w w' := by
  have q1 : (s.toList == [110, 101, 119]) = false := by rw [ba_list, h, beq_eq_false_iff_ne]; simp
  have q2 : (s.toList == [48]) = false := by rw [ba_list, h, beq_eq_false_iff_ne]; simpa using hb
  obtain ⟨h1, h2⟩ := ba_one h
  have q3 : ((s.size : Int) == 1) = true := by rw [beq_iff_eq]; omega
  have q4 : 0 < s.size := by omega
  obtain ⟨x, hx⟩ : ∃ x : Int, (b.toNat : Int) = x := ⟨_, rfl⟩
  have hr := u8_rng b
  rw [hx] at h2 hr ⊢
  obtain ⟨r0, r1⟩ := hr
  clear h hb h1 hx
  go_enter Tryz.func218, Tryz.ntmps218
  go_wp2
  go_ret
  exact ⟨rfl, Below.refl _ _⟩
set_option maxRecDepth 100000 in
set_option maxHeartbeats 1000000 in
theorem side_three (s : ByteArray) (w : World) (a b : UInt8) (h : s.data.toList = [a, 46, b]) : Calls Tryz.prog 218 #[.string s] w fun e w' => e = .returned (plcV ((a.toNat : Int) - 65) ((b.toNat : Int) - 48)) ∧ Below w.heap.size w w' := by
  have q1 : (s.toList == [110, 101, 119]) = false := by rw [ba_list, h, beq_eq_false_iff_ne]; simp
  have q2 : (s.toList == [48]) = false := by rw [ba_list, h, beq_eq_false_iff_ne]; simp
  obtain ⟨h1, h2, h3, h4⟩ := ba_three h
  have q3 : ((s.size : Int) == 1) = false := by rw [beq_eq_false_iff_ne]; omega
  have q4 : ((s.size : Int) == 3) = true := by rw [beq_iff_eq]; omega
  have q5 : 0 < s.size := by omega
  have q6 : 1 < s.size := by omega
  have q7 : 2 < s.size := by omega
  have q8 : (2 : Int) < s.size := by omega
  obtain ⟨x, hx⟩ : ∃ x : Int, (a.toNat : Int) = x := ⟨_, rfl⟩
  obtain ⟨y, hy⟩ : ∃ y : Int, (b.toNat : Int) = y := ⟨_, rfl⟩
  have hr := u8_rng a
  have hr2 := u8_rng b
  rw [hx] at h2 hr ⊢
  rw [hy] at h4 hr2 ⊢
  obtain ⟨r0, r1⟩ := hr
  obtain ⟨r2, r3⟩ := hr2
  have h3 : ∀ k : 1 < s.size, ((s[1]'k).toNat : Int) = 46 := fun k => by rw [h3 k]; rfl
  have v1 : IntKind.i64.wrap x = x := by simp [IntKind.wrap, IntKind.bits, IntKind.signed]; omega
  have v2 : IntKind.i64.wrap y = y := by simp [IntKind.wrap, IntKind.bits, IntKind.signed]; omega
  have v3 : IntKind.i64.wrap (x - 65) = x - 65 := by simp [IntKind.wrap, IntKind.bits, IntKind.signed]; omega
  have v4 : IntKind.i64.wrap (y - 48) = y - 48 := by simp [IntKind.wrap, IntKind.bits, IntKind.signed]; omega
  clear h h1 hx hy
  go_enter Tryz.func218, Tryz.ntmps218
  go_wp2
  refine wp_region_held_drew (S := fun _ => True) (by kernel_rfl) ?_ (fun hHeld => ?_)
  · exact trivial
  refine tkH 0 ⟨some 31, .move (.tmp 0), 9, "piece.go:113", #[], none⟩ (h := ?_)
  refine tkH 1 ⟨some 32, .index 9 (.tmp 31) (.const (.int .i64 0)), 5, "piece.go:113", #[⟨0, .data⟩], none⟩ (h := ?_)
  refine tkH 2 ⟨some 33, .convert 5 270 (.tmp 32), 270, "piece.go:113", #[⟨1, .data⟩], none⟩ (h := ?_)
  refine tkH 3 ⟨some 34, .binOp .sub 270 (.tmp 33) (.const (.int .i64 65)) 270, 270, "piece.go:113", #[⟨2, .data⟩], none⟩ (h := ?_)
  refine tkH 4 ⟨some 35, .move (.tmp 0), 9, "piece.go:113", #[], none⟩ (h := ?_)
  refine tkH 5 ⟨some 36, .index 9 (.tmp 35) (.const (.int .i64 2)), 5, "piece.go:113", #[⟨4, .data⟩], none⟩ (h := ?_)
  refine tkH 6 ⟨some 37, .convert 5 3 (.tmp 36), 3, "piece.go:113", #[⟨5, .data⟩], none⟩ (h := ?_)
  refine tkH 7 ⟨some 38, .binOp .sub 3 (.tmp 37) (.const (.int .i64 48)) 3, 3, "piece.go:113", #[⟨6, .data⟩], none⟩ (h := ?_)
  refine tkH 8 ⟨some 39, .build 272 #[(0, .tmp 34), (1, .tmp 38)], 272, "piece.go:113", #[⟨3, .data⟩, ⟨7, .data⟩], none⟩ (h := ?_)
  refine tkH 9 ⟨some 40, .makeInterface 272 (.tmp 39), 242, "piece.go:113", #[⟨8, .data⟩], none⟩ (h := ?_)
  refine tkH 10 ⟨some 2, .assign (.tmp 40), 242, "piece.go:113", #[⟨9, .data⟩, ⟨0, .phase⟩, ⟨1, .phase⟩, ⟨2, .phase⟩, ⟨3, .phase⟩, ⟨4, .phase⟩, ⟨5, .phase⟩, ⟨6, .phase⟩, ⟨7, .phase⟩, ⟨8, .phase⟩, ⟨9, .phase⟩], none⟩ (h := ?_)
  refine wpAnyH_done (by kernel_rfl) ?_ _
  go_wp2
  go_ret
  exact ⟨rfl, below_drewCd (Below.refl _ _)⟩
set_option maxRecDepth 100000 in
set_option maxHeartbeats 1000000 in
theorem side_mid (s : ByteArray) (w : World) (a m b : UInt8) (h : s.data.toList = [a, m, b]) (hm : m ≠ 46) (hn : s.data.toList ≠ [110, 101, 119]) : Calls Tryz.prog 218 #[.string s] w fun e w' => e = .returned (.nilIface) ∧ Below w.heap.size w w' := by
  have q1 : (s.toList == [110, 101, 119]) = false := by rw [ba_list, beq_eq_false_iff_ne]; exact hn
  have q2 : (s.toList == [48]) = false := by rw [ba_list, h, beq_eq_false_iff_ne]; simp
  obtain ⟨h1, h2, h3, h4⟩ := ba_three h
  have q3 : ((s.size : Int) == 1) = false := by rw [beq_eq_false_iff_ne]; omega
  have q4 : ((s.size : Int) == 3) = true := by rw [beq_iff_eq]; omega
  have q6 : 1 < s.size := by omega
  obtain ⟨x, hx⟩ : ∃ x : Int, (m.toNat : Int) = x := ⟨_, rfl⟩
  have hr := u8_rng m
  rw [hx] at h3 hr
  obtain ⟨r0, r1⟩ := hr
  have q5 : (x == 46) = false := by rw [beq_eq_false_iff_ne]; intro e; apply hm; apply UInt8.toNat_inj.1; have : (46 : UInt8).toNat = 46 := rfl; omega
  clear h h1 hx h2 h4 hm hn
  go_enter Tryz.func218, Tryz.ntmps218
  go_wp2
  go_ret
  exact ⟨rfl, Below.refl _ _⟩
set_option maxRecDepth 100000 in
set_option maxHeartbeats 1000000 in
theorem side_long (s : ByteArray) (w : World) (h1 : s.size ≠ 1) (h3 : s.size ≠ 3) : Calls Tryz.prog 218 #[.string s] w fun e w' => e = .returned (.nilIface) ∧ Below w.heap.size w w' := by
  have q1 : (s.toList == [110, 101, 119]) = false := by rw [ba_list, beq_eq_false_iff_ne]; intro e; have := ba_len s; rw [e] at this; simp at this; omega
  have q2 : (s.toList == [48]) = false := by rw [ba_list, beq_eq_false_iff_ne]; intro e; have := ba_len s; rw [e] at this; simp at this; omega
  have q3 : ((s.size : Int) == 1) = false := by rw [beq_eq_false_iff_ne]; omega
  have q4 : ((s.size : Int) == 3) = false := by rw [beq_eq_false_iff_ne]; omega
  clear h1 h3
  go_enter Tryz.func218, Tryz.ntmps218
  go_wp2
  go_ret
  exact ⟨rfl, Below.refl _ _⟩
theorem side_any (s : ByteArray) (w : World) : Calls Tryz.prog 218 #[.string s] w fun e w' => e = .returned (sdV (sideF s.data.toList)) ∧ Below w.heap.size w w' := by
  have hl := ba_len s
  obtain ⟨t, ht⟩ : ∃ t, s.data.toList = t := ⟨_, rfl⟩
  rw [ht] at hl ⊢
  rcases t with _ | ⟨a, _ | ⟨m, _ | ⟨b, _ | ⟨c, t⟩⟩⟩⟩
  · exact side_long s w (by simp at hl; omega) (by simp at hl; omega)
  · by_cases hb : a = 48
    · subst hb; exact side_none s w ht
    · have e : sideF [a] = .reg ((a.toNat : Int) - 65) := by
        unfold sideF
        rw [if_neg (by simp), if_neg (by simpa using hb)]
      rw [e]
      exact side_one s w a ht hb
  · rw [show sideF [a, m] = .bad by simp [sideF]]; exact side_long s w (by simp at hl; omega) (by simp at hl; omega)
  · by_cases hn : [a, m, b] = [110, 101, 119]
    · rw [hn] at ht ⊢; exact side_new s w ht
    · by_cases hm : m = 46
      · subst hm
        have e : sideF [a, 46, b] = .plc ((a.toNat : Int) - 65) ((b.toNat : Int) - 48) := by
          unfold sideF
          rw [if_neg hn, if_neg (by simp)]
          simp
        rw [e]
        exact side_three s w a b ht
      · have e : sideF [a, m, b] = .bad := by
          unfold sideF
          rw [if_neg hn, if_neg (by simp)]
          simp [hm]
        rw [e]
        exact side_mid s w a m b ht hm (by rw [ht]; exact hn)
  · rw [show sideF (a :: m :: b :: c :: t) = .bad by simp [sideF]]; exact side_long s w (by simp at hl; omega) (by simp at hl; omega)
end Go.Proofs.YtjnokhaojpijhaaGreatDoor
