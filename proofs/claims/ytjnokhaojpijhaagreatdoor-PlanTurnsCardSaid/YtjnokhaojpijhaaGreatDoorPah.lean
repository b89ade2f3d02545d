import Derived.Shelf.Abstract
import Derived.WalkKit
import Derived.OwnWalkIn
import Derived.TacticsInMore
import Derived.LoopNIn
import Derived.LoopIn
import Derived.Test.YtjnokhaojpijhaaGreatDoorPag
import Derived.Test.YtjnokhaojpijhaaGreatDoorPab
/- Layer code: opOf. -/
namespace Go.Proofs.YtjnokhaojpijhaaGreatDoor
open Go.RowKit Go.Shelf Go.Proofs Go.Joins
theorem cdrew (W : World) (a : Addr) : W.drew.cell? a = W.cell? a := rfl
theorem c_set {n : Nat} {a w : World} (h : Below n a w) (b o : Nat) (hb : n ≤ b) (v : Value) : Below n a (w.setCell ⟨b, o, none⟩ v) := h.setCell (p := ⟨b, o, none⟩) hb v
theorem c_alloc {n : Nat} {a w : World} (h : Below n a w) (hn : n ≤ w.heap.size) (o : Obj) : Below n a (w.alloc o) := h.alloc hn o
theorem cset {w : World} {b g o j : Nat} {v x : Value} (h : w.cell? ⟨b, j, none⟩ = some x) (hne : b ≠ g) : (w.setCell ⟨g, o, none⟩ v).cell? ⟨b, j, none⟩ = some x := (World.cell?_of_block (Below.heap_setCell w ⟨g, o, none⟩ v b hne)).trans h
theorem cset4 {w : World} {b g j : Nat} {x v0 v1 v2 v3 : Value} (h : w.cell? ⟨b, j, none⟩ = some x) (hne : b ≠ g) : ((((w.setCell ⟨g, 0, none⟩ v0).setCell ⟨g, 1, none⟩ v1).setCell ⟨g, 2, none⟩ v2).setCell ⟨g, 3, none⟩ v3).drew.cell? ⟨b, j, none⟩ = some x := by
  rw [cdrew]
  exact cset (cset (cset (cset h hne) hne) hne) hne
/-- a panic -/
def PanC (e : Ending) : Prop := ∃ u v, e = .panicked [{ v := .iface u v, recovered := false }]
abbrev taErr (i d t : Value) : Obj := .cells #[i, d, t, .string .empty] 316
theorem as_reg_plc (x : Int) (w : World) : (Instr.typeAssert (regV x) 242 272 true).run Tryz.prog w = .ok (.tuple #[.agg #[.int .i64 0, .int .i64 0], .bool false]) w := by kernel_rfl
theorem as_reg_fre (x : Int) (w : World) : (Instr.typeAssert (regV x) 242 274 true).run Tryz.prog w = .ok (.tuple #[.agg #[], .bool false]) w := by kernel_rfl
theorem as_reg_non (x : Int) (w : World) : (Instr.typeAssert (regV x) 242 275 true).run Tryz.prog w = .ok (.tuple #[.agg #[], .bool false]) w := by kernel_rfl
theorem as_reg_reg (x : Int) (w : World) : (Instr.typeAssert (regV x) 242 270 false).run Tryz.prog w = .ok (.int .i64 x) w := by kernel_rfl
theorem as_plc_plc (x y : Int) (w : World) : (Instr.typeAssert (plcV x y) 242 272 true).run Tryz.prog w = .ok (.tuple #[.agg #[.int .i64 x, .int .i64 y], .bool true]) w := by kernel_rfl
theorem as_plc_reg (x y : Int) (w : World) : (Instr.typeAssert (plcV x y) 242 270 false).run Tryz.prog w = .halt (.panic (.iface 15 (.pointer (some ⟨w.heap.size, 0, none⟩)))) (w.alloc (taErr (typeHandle Tryz.prog 242) (typeHandle Tryz.prog 272) (typeHandle Tryz.prog 270))) := by kernel_rfl
theorem as_fre_plc  (w : World) : (Instr.typeAssert (freV) 242 272 true).run Tryz.prog w = .ok (.tuple #[.agg #[.int .i64 0, .int .i64 0], .bool false]) w := by kernel_rfl
theorem as_fre_fre  (w : World) : (Instr.typeAssert (freV) 242 274 true).run Tryz.prog w = .ok (.tuple #[.agg #[], .bool true]) w := by kernel_rfl
theorem as_fre_reg  (w : World) : (Instr.typeAssert (freV) 242 270 false).run Tryz.prog w = .halt (.panic (.iface 15 (.pointer (some ⟨w.heap.size, 0, none⟩)))) (w.alloc (taErr (typeHandle Tryz.prog 242) (typeHandle Tryz.prog 274) (typeHandle Tryz.prog 270))) := by kernel_rfl
theorem as_non_plc  (w : World) : (Instr.typeAssert (nonV) 242 272 true).run Tryz.prog w = .ok (.tuple #[.agg #[.int .i64 0, .int .i64 0], .bool false]) w := by kernel_rfl
theorem as_non_fre  (w : World) : (Instr.typeAssert (nonV) 242 274 true).run Tryz.prog w = .ok (.tuple #[.agg #[], .bool false]) w := by kernel_rfl
theorem as_non_non  (w : World) : (Instr.typeAssert (nonV) 242 275 true).run Tryz.prog w = .ok (.tuple #[.agg #[], .bool true]) w := by kernel_rfl
theorem as_non_reg  (w : World) : (Instr.typeAssert (nonV) 242 270 false).run Tryz.prog w = .halt (.panic (.iface 15 (.pointer (some ⟨w.heap.size, 0, none⟩)))) (w.alloc (taErr (typeHandle Tryz.prog 242) (typeHandle Tryz.prog 275) (typeHandle Tryz.prog 270))) := by kernel_rfl
theorem as_bad_plc  (w : World) : (Instr.typeAssert (.nilIface) 242 272 true).run Tryz.prog w = .ok (.tuple #[.agg #[.int .i64 0, .int .i64 0], .bool false]) w := by kernel_rfl
theorem as_bad_fre  (w : World) : (Instr.typeAssert (.nilIface) 242 274 true).run Tryz.prog w = .ok (.tuple #[.agg #[], .bool false]) w := by kernel_rfl
theorem as_bad_non  (w : World) : (Instr.typeAssert (.nilIface) 242 275 true).run Tryz.prog w = .ok (.tuple #[.agg #[], .bool false]) w := by kernel_rfl
theorem as_bad_reg  (w : World) : (Instr.typeAssert (.nilIface) 242 270 false).run Tryz.prog w = .halt (.panic (.iface 15 (.pointer (some ⟨w.heap.size, 0, none⟩)))) (w.alloc (taErr (typeHandle Tryz.prog 242) (.pointer none) (typeHandle Tryz.prog 270))) := by kernel_rfl
set_option maxRecDepth 100000 in
set_option maxHeartbeats 2000000 in
theorem opOf_fre (v : Value) (w : World) : Calls Tryz.prog 217 #[freV, v] w fun e w' => PanC e ∧ Below w.heap.size w w' := by
  have f1 := as_fre_plc
  have f2 := as_fre_reg
  obtain ⟨w1, e1, hb1, hs1, X⟩ := b4_new w (.int .i64 0) (.int .i64 0) (.int .i64 0) (.int .i64 0) 106
  have HE1 := hide e1
  clear e1 X
  go_enter Tryz.func217, Tryz.ntmps217
  go_upto_region 1 with (fail)
  rw [HE1.out]
  go_wp2
  exact ⟨rfl, ⟨_, _, rfl⟩, bcall (bcall hb1 (cbal _ _)) (cbal _ _)⟩
set_option maxRecDepth 100000 in
set_option maxHeartbeats 2000000 in
theorem opOf_non (v : Value) (w : World) : Calls Tryz.prog 217 #[nonV, v] w fun e w' => PanC e ∧ Below w.heap.size w w' := by
  have f1 := as_non_plc
  have f2 := as_non_reg
  obtain ⟨w1, e1, hb1, hs1, X⟩ := b4_new w (.int .i64 0) (.int .i64 0) (.int .i64 0) (.int .i64 0) 106
  have HE1 := hide e1
  clear e1 X
  go_enter Tryz.func217, Tryz.ntmps217
  go_upto_region 1 with (fail)
  rw [HE1.out]
  go_wp2
  exact ⟨rfl, ⟨_, _, rfl⟩, bcall (bcall hb1 (cbal _ _)) (cbal _ _)⟩
set_option maxRecDepth 100000 in
set_option maxHeartbeats 2000000 in
theorem opOf_bad (v : Value) (w : World) : Calls Tryz.prog 217 #[.nilIface, v] w fun e w' => PanC e ∧ Below w.heap.size w w' := by
  have f1 := as_bad_plc
  have f2 := as_bad_reg
  obtain ⟨w1, e1, hb1, hs1, X⟩ := b4_new w (.int .i64 0) (.int .i64 0) (.int .i64 0) (.int .i64 0) 106
  have HE1 := hide e1
  clear e1 X
  go_enter Tryz.func217, Tryz.ntmps217
  go_upto_region 1 with (fail)
  rw [HE1.out]
  go_wp2
  exact ⟨rfl, ⟨_, _, rfl⟩, bcall (bcall hb1 (cbal _ _)) (cbal _ _)⟩
set_option maxRecDepth 100000 in
set_option maxHeartbeats 2000000 in
theorem opOf_plc_reg (a s r : Int) (w : World) : Calls Tryz.prog 217 #[plcV a s, regV r] w fun e w' => e = .returned (qv 2 r a s) ∧ Below w.heap.size w w' := by
  have f0 := as_plc_plc a s
  have f1 := as_reg_reg r
  obtain ⟨w1, e1, hb1, hs1, X⟩ := b4_new w (.int .i64 0) (.int .i64 0) (.int .i64 0) (.int .i64 0) 106
  obtain ⟨w2, e2, hb2, hs2, Y0, Y1, -, -⟩ := b2_newCd w1 (.int .i64 a) (.int .i64 s) 272
  have HE1 := hide e1
  have HE2 := hide e2
  have HX := hide (X.below hb2)
  have hB := bcall hb1 hb2
  rw [hs1] at Y0 Y1
  have HS2 := hide (show w2.heap.size = w.heap.size + 2 by omega)
  clear e1 e2 X hb1 hb2 hs1 hs2
  go_enter Tryz.func217, Tryz.ntmps217
  go_upto_region 2 with (fail)
  rw [HE1.out, HE2.out]
  go_wp2
  obtain ⟨X0, X1, X2, X3⟩ := HX.out.all
  obtain ⟨X4, X5, X6, X7⟩ := HX.out.free
  refine wp_region_held_drew (S := fun w' => w'.cell? ⟨w.heap.size + 1, 0, none⟩ = some (.int .i64 a) ∧ w'.cell? ⟨w.heap.size + 1, 1, none⟩ = some (.int .i64 s)) (by kernel_rfl) ?_ (fun hHeld => ?_)
  · exact (by first | (with_reducible exact ⟨Y0, Y1⟩) | (with_reducible exact ⟨cset4 Y0 (by omega), cset4 Y1 (by omega)⟩) | exact ⟨Y0, Y1⟩)
  refine tkH 0 ⟨some 17, .move (.tmp 1), 242, "piece.go:88", #[], none⟩ (h := ?_)
  refine tkH 1 ⟨some 18, .typeAssert (.tmp 17) 242 270 false, 270, "piece.go:88", #[⟨0, .data⟩], none⟩ (h := ?_)
  refine tkH 2 ⟨some 19, .fieldAddr 272 (.tmp 5) 0, 0, "piece.go:88", #[], none⟩ (h := ?_)
  refine tkH 3 ⟨some 20, .load 270 (.tmp 19), 270, "piece.go:88", #[⟨2, .data⟩], none⟩ (h := ?_)
  refine tkH 4 ⟨some 21, .fieldAddr 272 (.tmp 5) 1, 0, "piece.go:88", #[], none⟩ (h := ?_)
  refine tkH 5 ⟨some 22, .load 3 (.tmp 21), 3, "piece.go:88", #[⟨4, .data⟩], none⟩ (h := ?_)
  refine tkH 6 ⟨some 23, .build 106 #[(0, .const (.int .i64 2)), (1, .tmp 18), (2, .tmp 20), (3, .tmp 22)], 106, "piece.go:88", #[⟨1, .data⟩, ⟨3, .data⟩, ⟨5, .data⟩], none⟩ (h := ?_)
  refine wpAnyH_ready (rs := [7]) (by kernel_rfl) (by simp) ?_
  refine AllReadyH.cons rfl (fun K hK => ?_) AllReadyH.nil
  go_simp
  (try go_simp)
  refine hK.out _ _ (by first | (with_reducible exact ⟨Y0, Y1⟩) | (with_reducible exact ⟨cset4 Y0 (by omega), cset4 Y1 (by omega)⟩) | exact ⟨Y0, Y1⟩) (fun hHeld => ?_)
  (try simp only [Act.put, List.setIfInBounds_toArray, List.set_cons_zero, List.set_cons_succ])
  refine wpAnyH_done (by kernel_rfl) ?_ _
  go_wp2
  refine bodyPost_ret (v := qv 2 r a s) (by simp [results, Tryz.results217, go_sem, X0, X1, X2, X3]) rfl ⟨rfl, ?_⟩
  repeat (first | (with_reducible exact hB) | (with_reducible refine c_set ?_ _ _ (by omega) _) | (with_reducible refine below_drewCd ?_))
set_option maxRecDepth 100000 in
set_option maxHeartbeats 2000000 in
theorem opOf_plc_plc (a s : Int) (x y : Int) (w : World) : Calls Tryz.prog 217 #[plcV a s, plcV x y] w fun e w' => PanC e ∧ Below w.heap.size w w' := by
  have f0 := as_plc_plc a s
  have f1 := as_plc_reg x y
  obtain ⟨w1, e1, hb1, hs1, X⟩ := b4_new w (.int .i64 0) (.int .i64 0) (.int .i64 0) (.int .i64 0) 106
  obtain ⟨w2, e2, hb2, hs2, Y0, Y1, -, -⟩ := b2_newCd w1 (.int .i64 a) (.int .i64 s) 272
  have HE1 := hide e1
  have HE2 := hide e2
  have HX := hide (X.below hb2)
  have hB := bcall hb1 hb2
  rw [hs1] at Y0 Y1
  have HS2 := hide (show w2.heap.size = w.heap.size + 2 by omega)
  clear e1 e2 X hb1 hb2 hs1 hs2
  go_enter Tryz.func217, Tryz.ntmps217
  go_upto_region 2 with (fail)
  rw [HE1.out, HE2.out]
  go_wp2
  refine wp_region_held_drew (S := fun w' => w'.cell? ⟨w.heap.size + 1, 0, none⟩ = some (.int .i64 a) ∧ w'.cell? ⟨w.heap.size + 1, 1, none⟩ = some (.int .i64 s)) (by kernel_rfl) ?_ (fun hHeld => ?_)
  · exact (by first | (with_reducible exact ⟨Y0, Y1⟩) | (with_reducible exact ⟨cset4 Y0 (by omega), cset4 Y1 (by omega)⟩) | exact ⟨Y0, Y1⟩)
  refine tkH 0 ⟨some 17, .move (.tmp 1), 242, "piece.go:88", #[], none⟩ (h := ?_)
  refine tkH 2 ⟨some 19, .fieldAddr 272 (.tmp 5) 0, 0, "piece.go:88", #[], none⟩ (h := ?_)
  refine tkH 3 ⟨some 20, .load 270 (.tmp 19), 270, "piece.go:88", #[⟨2, .data⟩], none⟩ (h := ?_)
  refine tkH 4 ⟨some 21, .fieldAddr 272 (.tmp 5) 1, 0, "piece.go:88", #[], none⟩ (h := ?_)
  refine tkH 5 ⟨some 22, .load 3 (.tmp 21), 3, "piece.go:88", #[⟨4, .data⟩], none⟩ (h := ?_)
  refine wpAnyH_ready (rs := [1]) (by kernel_rfl) (by simp) ?_
  refine AllReadyH.cons rfl (fun K hK => ?_) AllReadyH.nil
  clear hK
  go_simp
  refine ⟨rfl, ⟨_, _, rfl⟩, ?_⟩
  have HS := HS2.out
  repeat (first | (with_reducible exact hB) | (with_reducible refine c_alloc ?_ (by omega) _) | (with_reducible refine below_drewCd ?_))
set_option maxRecDepth 100000 in
set_option maxHeartbeats 2000000 in
theorem opOf_plc_fre (a s : Int)  (w : World) : Calls Tryz.prog 217 #[plcV a s, freV] w fun e w' => PanC e ∧ Below w.heap.size w w' := by
  have f0 := as_plc_plc a s
  have f1 := as_fre_reg 
  obtain ⟨w1, e1, hb1, hs1, X⟩ := b4_new w (.int .i64 0) (.int .i64 0) (.int .i64 0) (.int .i64 0) 106
  obtain ⟨w2, e2, hb2, hs2, Y0, Y1, -, -⟩ := b2_newCd w1 (.int .i64 a) (.int .i64 s) 272
  have HE1 := hide e1
  have HE2 := hide e2
  have HX := hide (X.below hb2)
  have hB := bcall hb1 hb2
  rw [hs1] at Y0 Y1
  have HS2 := hide (show w2.heap.size = w.heap.size + 2 by omega)
  clear e1 e2 X hb1 hb2 hs1 hs2
  go_enter Tryz.func217, Tryz.ntmps217
  go_upto_region 2 with (fail)
  rw [HE1.out, HE2.out]
  go_wp2
  refine wp_region_held_drew (S := fun w' => w'.cell? ⟨w.heap.size + 1, 0, none⟩ = some (.int .i64 a) ∧ w'.cell? ⟨w.heap.size + 1, 1, none⟩ = some (.int .i64 s)) (by kernel_rfl) ?_ (fun hHeld => ?_)
  · exact (by first | (with_reducible exact ⟨Y0, Y1⟩) | (with_reducible exact ⟨cset4 Y0 (by omega), cset4 Y1 (by omega)⟩) | exact ⟨Y0, Y1⟩)
  refine tkH 0 ⟨some 17, .move (.tmp 1), 242, "piece.go:88", #[], none⟩ (h := ?_)
  refine tkH 2 ⟨some 19, .fieldAddr 272 (.tmp 5) 0, 0, "piece.go:88", #[], none⟩ (h := ?_)
  refine tkH 3 ⟨some 20, .load 270 (.tmp 19), 270, "piece.go:88", #[⟨2, .data⟩], none⟩ (h := ?_)
  refine tkH 4 ⟨some 21, .fieldAddr 272 (.tmp 5) 1, 0, "piece.go:88", #[], none⟩ (h := ?_)
  refine tkH 5 ⟨some 22, .load 3 (.tmp 21), 3, "piece.go:88", #[⟨4, .data⟩], none⟩ (h := ?_)
  refine wpAnyH_ready (rs := [1]) (by kernel_rfl) (by simp) ?_
  refine AllReadyH.cons rfl (fun K hK => ?_) AllReadyH.nil
  clear hK
  go_simp
  refine ⟨rfl, ⟨_, _, rfl⟩, ?_⟩
  have HS := HS2.out
  repeat (first | (with_reducible exact hB) | (with_reducible refine c_alloc ?_ (by omega) _) | (with_reducible refine below_drewCd ?_))
set_option maxRecDepth 100000 in
set_option maxHeartbeats 2000000 in
theorem opOf_plc_non (a s : Int)  (w : World) : Calls Tryz.prog 217 #[plcV a s, nonV] w fun e w' => PanC e ∧ Below w.heap.size w w' := by
  have f0 := as_plc_plc a s
  have f1 := as_non_reg 
  obtain ⟨w1, e1, hb1, hs1, X⟩ := b4_new w (.int .i64 0) (.int .i64 0) (.int .i64 0) (.int .i64 0) 106
  obtain ⟨w2, e2, hb2, hs2, Y0, Y1, -, -⟩ := b2_newCd w1 (.int .i64 a) (.int .i64 s) 272
  have HE1 := hide e1
  have HE2 := hide e2
  have HX := hide (X.below hb2)
  have hB := bcall hb1 hb2
  rw [hs1] at Y0 Y1
  have HS2 := hide (show w2.heap.size = w.heap.size + 2 by omega)
  clear e1 e2 X hb1 hb2 hs1 hs2
  go_enter Tryz.func217, Tryz.ntmps217
  go_upto_region 2 with (fail)
  rw [HE1.out, HE2.out]
  go_wp2
  refine wp_region_held_drew (S := fun w' => w'.cell? ⟨w.heap.size + 1, 0, none⟩ = some (.int .i64 a) ∧ w'.cell? ⟨w.heap.size + 1, 1, none⟩ = some (.int .i64 s)) (by kernel_rfl) ?_ (fun hHeld => ?_)
  · exact (by first | (with_reducible exact ⟨Y0, Y1⟩) | (with_reducible exact ⟨cset4 Y0 (by omega), cset4 Y1 (by omega)⟩) | exact ⟨Y0, Y1⟩)
  refine tkH 0 ⟨some 17, .move (.tmp 1), 242, "piece.go:88", #[], none⟩ (h := ?_)
  refine tkH 2 ⟨some 19, .fieldAddr 272 (.tmp 5) 0, 0, "piece.go:88", #[], none⟩ (h := ?_)
  refine tkH 3 ⟨some 20, .load 270 (.tmp 19), 270, "piece.go:88", #[⟨2, .data⟩], none⟩ (h := ?_)
  refine tkH 4 ⟨some 21, .fieldAddr 272 (.tmp 5) 1, 0, "piece.go:88", #[], none⟩ (h := ?_)
  refine tkH 5 ⟨some 22, .load 3 (.tmp 21), 3, "piece.go:88", #[⟨4, .data⟩], none⟩ (h := ?_)
  refine wpAnyH_ready (rs := [1]) (by kernel_rfl) (by simp) ?_
  refine AllReadyH.cons rfl (fun K hK => ?_) AllReadyH.nil
  clear hK
  go_simp
  refine ⟨rfl, ⟨_, _, rfl⟩, ?_⟩
  have HS := HS2.out
  repeat (first | (with_reducible exact hB) | (with_reducible refine c_alloc ?_ (by omega) _) | (with_reducible refine below_drewCd ?_))
set_option maxRecDepth 100000 in
set_option maxHeartbeats 2000000 in
theorem opOf_plc_bad (a s : Int)  (w : World) : Calls Tryz.prog 217 #[plcV a s, .nilIface] w fun e w' => PanC e ∧ Below w.heap.size w w' := by
  have f0 := as_plc_plc a s
  have f1 := as_bad_reg 
  obtain ⟨w1, e1, hb1, hs1, X⟩ := b4_new w (.int .i64 0) (.int .i64 0) (.int .i64 0) (.int .i64 0) 106
  obtain ⟨w2, e2, hb2, hs2, Y0, Y1, -, -⟩ := b2_newCd w1 (.int .i64 a) (.int .i64 s) 272
  have HE1 := hide e1
  have HE2 := hide e2
  have HX := hide (X.below hb2)
  have hB := bcall hb1 hb2
  rw [hs1] at Y0 Y1
  have HS2 := hide (show w2.heap.size = w.heap.size + 2 by omega)
  clear e1 e2 X hb1 hb2 hs1 hs2
  go_enter Tryz.func217, Tryz.ntmps217
  go_upto_region 2 with (fail)
  rw [HE1.out, HE2.out]
  go_wp2
  refine wp_region_held_drew (S := fun w' => w'.cell? ⟨w.heap.size + 1, 0, none⟩ = some (.int .i64 a) ∧ w'.cell? ⟨w.heap.size + 1, 1, none⟩ = some (.int .i64 s)) (by kernel_rfl) ?_ (fun hHeld => ?_)
  · exact (by first | (with_reducible exact ⟨Y0, Y1⟩) | (with_reducible exact ⟨cset4 Y0 (by omega), cset4 Y1 (by omega)⟩) | exact ⟨Y0, Y1⟩)
  refine tkH 0 ⟨some 17, .move (.tmp 1), 242, "piece.go:88", #[], none⟩ (h := ?_)
  refine tkH 2 ⟨some 19, .fieldAddr 272 (.tmp 5) 0, 0, "piece.go:88", #[], none⟩ (h := ?_)
  refine tkH 3 ⟨some 20, .load 270 (.tmp 19), 270, "piece.go:88", #[⟨2, .data⟩], none⟩ (h := ?_)
  refine tkH 4 ⟨some 21, .fieldAddr 272 (.tmp 5) 1, 0, "piece.go:88", #[], none⟩ (h := ?_)
  refine tkH 5 ⟨some 22, .load 3 (.tmp 21), 3, "piece.go:88", #[⟨4, .data⟩], none⟩ (h := ?_)
  refine wpAnyH_ready (rs := [1]) (by kernel_rfl) (by simp) ?_
  refine AllReadyH.cons rfl (fun K hK => ?_) AllReadyH.nil
  clear hK
  go_simp
  refine ⟨rfl, ⟨_, _, rfl⟩, ?_⟩
  have HS := HS2.out
  repeat (first | (with_reducible exact hB) | (with_reducible refine c_alloc ?_ (by omega) _) | (with_reducible refine below_drewCd ?_))
set_option maxRecDepth 100000 in
set_option maxHeartbeats 2000000 in
theorem opOf_reg_plc (r x y : Int) (w : World) : Calls Tryz.prog 217 #[regV r, plcV x y] w fun e w' => e = .returned (qv 1 r x y) ∧ Below w.heap.size w w' := by
  have f0 := as_reg_plc r
  have f1 := as_reg_reg r
  have f2 := as_plc_plc x y
  obtain ⟨w1, e1, hb1, hs1, X⟩ := b4_new w (.int .i64 0) (.int .i64 0) (.int .i64 0) (.int .i64 0) 106
  obtain ⟨w2, e2, hb2, hs2, Y0, Y1, -, -⟩ := b2_newCd w1 (.int .i64 0) (.int .i64 0) 272
  have HE1 := hide e1
  have HE2 := hide e2
  have HX := hide (X.below hb2)
  have hB := bcall hb1 hb2
  rw [hs1] at Y0 Y1
  have HS2 := hide (show w2.heap.size = w.heap.size + 2 by omega)
  clear e1 e2 X hb1 hb2 hs1 hs2
  go_enter Tryz.func217, Tryz.ntmps217
  go_upto_region 2 with (fail)
  rw [HE1.out, HE2.out]
  obtain ⟨w3, e3, hb3, hs3, W0, W1, -, -⟩ := b2_newCd w2 (.int .i64 x) (.int .i64 y) 272
  have HE3 := hide e3
  have HX := hide (HX.out.below hb3)
  have hB := bcall hB hb3
  clear e3 hb3 hs3 Y0 Y1
  go_upto_region 8 with (fail)
  rw [HE3.out]
  obtain ⟨X0, X1, X2, X3⟩ := HX.out.all
  obtain ⟨X4, X5, X6, X7⟩ := HX.out.free
  go_wp2
  refine bodyPost_ret (v := qv 1 r x y) (by simp [results, Tryz.results217, go_sem, X0, X1, X2, X3]) rfl ⟨rfl, ?_⟩
  repeat (first | (with_reducible exact hB) | (with_reducible refine c_set ?_ _ _ (by omega) _) | (with_reducible refine below_drewCd ?_))
set_option maxRecDepth 100000 in
set_option maxHeartbeats 2000000 in
theorem opOf_reg_fre (r : Int) (w : World) : Calls Tryz.prog 217 #[regV r, freV] w fun e w' => e = .returned (qv 3 r 0 0) ∧ Below w.heap.size w w' := by
  have f0 := as_reg_plc r
  have f1 := as_reg_reg r
  have f2 := as_fre_plc 
  have f3 := as_fre_fre 
  obtain ⟨w1, e1, hb1, hs1, X⟩ := b4_new w (.int .i64 0) (.int .i64 0) (.int .i64 0) (.int .i64 0) 106
  obtain ⟨w2, e2, hb2, hs2, Y0, Y1, -, -⟩ := b2_newCd w1 (.int .i64 0) (.int .i64 0) 272
  have HE1 := hide e1
  have HE2 := hide e2
  have HX := hide (X.below hb2)
  have hB := bcall hb1 hb2
  rw [hs1] at Y0 Y1
  have HS2 := hide (show w2.heap.size = w.heap.size + 2 by omega)
  clear e1 e2 X hb1 hb2 hs1 hs2
  go_enter Tryz.func217, Tryz.ntmps217
  go_upto_region 2 with (fail)
  rw [HE1.out, HE2.out]
  obtain ⟨w3, e3, hb3⟩ : ∃ w3, w2.alloc (.cells #[] 274) = w3 ∧ Below w2.heap.size w2 w3 := ⟨_, rfl, cbal _ _⟩
  have HE3 := hide e3
  have HX := hide (HX.out.below hb3)
  have hB := bcall hB hb3
  clear e3 hb3 Y0 Y1
  go_upto_region 11 with (fail)
  rw [HE3.out]
  obtain ⟨X0, X1, X2, X3⟩ := HX.out.all
  obtain ⟨X4, X5, X6, X7⟩ := HX.out.free
  go_wp2
  refine bodyPost_ret (v := qv 3 r 0 0) (by simp [results, Tryz.results217, go_sem, X0, X1, X2, X3]) rfl ⟨rfl, ?_⟩
  repeat (first | (with_reducible exact hB) | (with_reducible refine c_set ?_ _ _ (by omega) _) | (with_reducible refine below_drewCd ?_))
set_option maxRecDepth 100000 in
set_option maxHeartbeats 2000000 in
theorem opOf_reg_non (r : Int) (w : World) : Calls Tryz.prog 217 #[regV r, nonV] w fun e w' => e = .returned (qv 5 r 0 0) ∧ Below w.heap.size w w' := by
  have f0 := as_reg_plc r
  have f1 := as_reg_reg r
  have f2 := as_non_plc 
  have f3 := as_non_fre 
  have f4 := as_non_non 
  obtain ⟨w1, e1, hb1, hs1, X⟩ := b4_new w (.int .i64 0) (.int .i64 0) (.int .i64 0) (.int .i64 0) 106
  obtain ⟨w2, e2, hb2, hs2, Y0, Y1, -, -⟩ := b2_newCd w1 (.int .i64 0) (.int .i64 0) 272
  have HE1 := hide e1
  have HE2 := hide e2
  have HX := hide (X.below hb2)
  have hB := bcall hb1 hb2
  rw [hs1] at Y0 Y1
  have HS2 := hide (show w2.heap.size = w.heap.size + 2 by omega)
  clear e1 e2 X hb1 hb2 hs1 hs2
  go_enter Tryz.func217, Tryz.ntmps217
  go_upto_region 2 with (fail)
  rw [HE1.out, HE2.out]
  obtain ⟨w3, e3, hb3⟩ : ∃ w3, w2.alloc (.cells #[] 275) = w3 ∧ Below w2.heap.size w2 w3 := ⟨_, rfl, cbal _ _⟩
  have HE3 := hide e3
  have HX := hide (HX.out.below hb3)
  have hB := bcall hB hb3
  clear e3 hb3 Y0 Y1
  go_upto_region 14 with (fail)
  rw [HE3.out]
  obtain ⟨X0, X1, X2, X3⟩ := HX.out.all
  obtain ⟨X4, X5, X6, X7⟩ := HX.out.free
  go_wp2
  refine bodyPost_ret (v := qv 5 r 0 0) (by simp [results, Tryz.results217, go_sem, X0, X1, X2, X3]) rfl ⟨rfl, ?_⟩
  repeat (first | (with_reducible exact hB) | (with_reducible refine c_set ?_ _ _ (by omega) _) | (with_reducible refine below_drewCd ?_))
set_option maxRecDepth 100000 in
set_option maxHeartbeats 2000000 in
theorem opOf_reg_reg (r x : Int) (w : World) : Calls Tryz.prog 217 #[regV r, regV x] w fun e w' => e = .returned (qv 4 r x 0) ∧ Below w.heap.size w w' := by
  have f0 := as_reg_plc r
  have f1 := as_reg_reg r
  have f2 := as_reg_plc x
  have f3 := as_reg_fre x
  have f4 := as_reg_non x
  have f5 := as_reg_reg x
  obtain ⟨w1, e1, hb1, hs1, X⟩ := b4_new w (.int .i64 0) (.int .i64 0) (.int .i64 0) (.int .i64 0) 106
  obtain ⟨w2, e2, hb2, hs2, Y0, Y1, -, -⟩ := b2_newCd w1 (.int .i64 0) (.int .i64 0) 272
  have HE1 := hide e1
  have HE2 := hide e2
  have HX := hide (X.below hb2)
  have hB := bcall hb1 hb2
  rw [hs1] at Y0 Y1
  have HS2 := hide (show w2.heap.size = w.heap.size + 2 by omega)
  clear e1 e2 X hb1 hb2 hs1 hs2
  go_enter Tryz.func217, Tryz.ntmps217
  go_upto_region 2 with (fail)
  rw [HE1.out, HE2.out]
  obtain ⟨X0, X1, X2, X3⟩ := HX.out.all
  obtain ⟨X4, X5, X6, X7⟩ := HX.out.free
  go_wp2
  refine bodyPost_ret (v := qv 4 r x 0) (by simp [results, Tryz.results217, go_sem, X0, X1, X2, X3]) rfl ⟨rfl, ?_⟩
  repeat (first | (with_reducible exact hB) | (with_reducible refine c_set ?_ _ _ (by omega) _) | (with_reducible refine below_drewCd ?_))
set_option maxRecDepth 100000 in
set_option maxHeartbeats 2000000 in
theorem opOf_reg_bad (r : Int) (w : World) : Calls Tryz.prog 217 #[regV r, .nilIface] w fun e w' => PanC e ∧ Below w.heap.size w w' := by
  have f0 := as_reg_plc r
  have f1 := as_reg_reg r
  have f2 := as_bad_plc 
  have f3 := as_bad_fre 
  have f4 := as_bad_non 
  have f5 := as_bad_reg 
  obtain ⟨w1, e1, hb1, hs1, X⟩ := b4_new w (.int .i64 0) (.int .i64 0) (.int .i64 0) (.int .i64 0) 106
  obtain ⟨w2, e2, hb2, hs2, Y0, Y1, -, -⟩ := b2_newCd w1 (.int .i64 0) (.int .i64 0) 272
  have HE1 := hide e1
  have HE2 := hide e2
  have HX := hide (X.below hb2)
  have hB := bcall hb1 hb2
  rw [hs1] at Y0 Y1
  have HS2 := hide (show w2.heap.size = w.heap.size + 2 by omega)
  clear e1 e2 X hb1 hb2 hs1 hs2
  go_enter Tryz.func217, Tryz.ntmps217
  go_upto_region 2 with (fail)
  rw [HE1.out, HE2.out]
  go_wp2
  refine ⟨rfl, ⟨_, _, rfl⟩, ?_⟩
  have HS := HS2.out
  repeat (first | (with_reducible exact hB) | (with_reducible refine c_alloc ?_ (by omega) _) | (with_reducible refine below_drewCd ?_))
theorem opOf_any (x y : Sd) (w : World) : Calls Tryz.prog 217 #[sdV x, sdV y] w fun e w' => (match opF x y with | some q => e = .returned (qv q.kind q.r q.a q.s) | none => PanC e) ∧ Below w.heap.size w w' := by
  cases x with
  | reg r =>
    cases y with
    | reg q => exact opOf_reg_reg r q w
    | plc a s => exact opOf_reg_plc r a s w
    | fre => exact opOf_reg_fre r w
    | non => exact opOf_reg_non r w
    | bad => exact opOf_reg_bad r w
  | plc a s =>
    cases y with
    | reg r => exact opOf_plc_reg a s r w
    | plc x y => exact opOf_plc_plc a s x y w
    | fre => exact opOf_plc_fre a s w
    | non => exact opOf_plc_non a s w
    | bad => exact opOf_plc_bad a s w
  | fre => exact opOf_fre (sdV y) w
  | non => exact opOf_non (sdV y) w
  | bad => exact opOf_bad (sdV y) w
-- MORE
end Go.Proofs.YtjnokhaojpijhaaGreatDoor
/- Layer code: a text is cut at its first '='; read. -/
namespace Go.Proofs.YtjnokhaojpijhaaGreatDoor
open Go.RowKit Go.Shelf Go.Proofs Go.Joins
theorem xt_take (s : ByteArray) (k : Nat) : (s.extract 0 k).data.toList = s.data.toList.take k := by
  rw [ByteArray.data_extract, Array.toList_extract]
  simp [List.extract]
theorem xt_drop (s : ByteArray) (k : Nat) : (s.extract k s.size).data.toList = s.data.toList.drop k := by
  rw [ByteArray.data_extract, Array.toList_extract, ← ba_len s]
  unfold List.extract
  exact List.take_of_length_le (by simp)
set_option maxHeartbeats 1000000 in
theorem cut_no (s : ByteArray) (w : World) (h : Go.Lib.indexByte s.data.toList 61 = -1) : Calls Tryz.prog 173 #[.string s, .string ⟨#[61]⟩] w fun e w' => e = .returned (.tuple #[.string s, .string ⟨#[]⟩, .bool false]) ∧ w' = w := by
  have HI := hide (Tryz.stringslite_Index_one s 61)
  have H := hide h
  clear h
  go_enter Tryz.func173, Tryz.ntmps173
  go_wp2_with fail
  refine (HI.out _).mono ?_
  rintro e _ ⟨rfl, rfl⟩
  rw [H.out]
  go_wp2
  go_ret3
  exact ⟨rfl, rfl⟩
set_option maxHeartbeats 1000000 in
theorem cut_at (s : ByteArray) (i : Nat) (w : World) (h : Go.Lib.indexByte s.data.toList 61 = (i : Int)) (hi : i < s.size) (hs : s.size ≤ 9223372036854775807) : Calls Tryz.prog 173 #[.string s, .string ⟨#[61]⟩] w fun e w' => e = .returned (.tuple #[.string (s.extract 0 i), .string (s.extract (i + 1) s.size), .bool true]) ∧ Below w.heap.size w w' := by
  have HI := hide (Tryz.stringslite_Index_one s 61)
  have H := hide h
  have c1 : (0 : Int) ≤ i := by omega
  have c2 : (i : Int) ≤ s.size := by omega
  have c3 : (0 : Int) ≤ i + 1 := by omega
  have c4 : (i : Int) + 1 ≤ s.size := by omega
  have c5 : ((i : Int) + 1).toNat = i + 1 := by omega
  have c6 : IntKind.i64.wrap ((i : Int) + 1) = (i : Int) + 1 := by simp [IntKind.wrap, IntKind.bits, IntKind.signed]; omega
  clear h hi hs
  go_enter Tryz.func173, Tryz.ntmps173
  go_wp2_with fail
  refine (HI.out _).mono ?_
  rintro e _ ⟨rfl, rfl⟩
  rw [H.out]
  go_wp2
  refine wp_region_held_drew (S := fun _ => True) (by kernel_rfl) ?_ (fun hHeld => ?_)
  · exact trivial
  refine tkH 0 ⟨some 13, .move (.tmp 0), 9, "strings.go:82", #[], none⟩ (h := ?_)
  refine tkH 1 ⟨some 14, .move (.tmp 7), 3, "strings.go:82", #[], none⟩ (h := ?_)
  refine tkH 2 ⟨some 15, .slice 9 (.tmp 13) none (some (.tmp 14)) none, 9, "strings.go:82", #[⟨0, .data⟩, ⟨1, .data⟩], none⟩ (h := ?_)
  refine tkH 3 ⟨some 16, .move (.tmp 0), 9, "strings.go:82", #[], none⟩ (h := ?_)
  refine tkH 4 ⟨some 17, .move (.tmp 7), 3, "strings.go:82", #[], none⟩ (h := ?_)
  refine tkH 5 ⟨some 18, .move (.tmp 1), 9, "strings.go:82", #[], none⟩ (h := ?_)
  refine tkH 6 ⟨some 19, .call { callee := .builtin .len, args := #[.tmp 18], argTypes := #[9] }, 3, "strings.go:82", #[⟨5, .data⟩], none⟩ (h := ?_)
  refine tkH 7 ⟨some 20, .binOp .add 3 (.tmp 17) (.tmp 19) 3, 3, "strings.go:82", #[⟨4, .data⟩, ⟨6, .data⟩], none⟩ (h := ?_)
  refine tkH 8 ⟨some 21, .slice 9 (.tmp 16) (some (.tmp 20)) none none, 9, "strings.go:82", #[⟨3, .data⟩, ⟨7, .data⟩], none⟩ (h := ?_)
  refine tkH 9 ⟨some 4, .assign (.tmp 15), 9, "strings.go:82", #[⟨2, .data⟩, ⟨0, .phase⟩, ⟨1, .phase⟩, ⟨2, .phase⟩, ⟨3, .textOnly .lateStores⟩, ⟨4, .textOnly .lateStores⟩, ⟨5, .textOnly .lateStores⟩, ⟨6, .textOnly .lateStoresUnsure⟩, ⟨7, .textOnly .lateStores⟩, ⟨8, .textOnly .lateStoresUnsure⟩], none⟩ (h := ?_)
  refine tkH 10 ⟨some 5, .assign (.tmp 21), 9, "strings.go:82", #[⟨8, .data⟩, ⟨9, .chain⟩, ⟨0, .phase⟩, ⟨1, .phase⟩, ⟨2, .phase⟩, ⟨3, .phase⟩, ⟨4, .phase⟩, ⟨5, .phase⟩, ⟨6, .phase⟩, ⟨7, .phase⟩, ⟨8, .phase⟩, ⟨9, .phase⟩], none⟩ (h := ?_)
  refine tkH 11 ⟨some 6, .assign (.const (.bool true)), 4, "strings.go:82", #[⟨10, .chain⟩, ⟨0, .phase⟩, ⟨1, .phase⟩, ⟨2, .phase⟩, ⟨3, .phase⟩, ⟨4, .phase⟩, ⟨5, .phase⟩, ⟨6, .phase⟩, ⟨7, .phase⟩, ⟨8, .phase⟩, ⟨9, .phase⟩, ⟨10, .phase⟩], none⟩ (h := ?_)
  refine wpAnyH_done (by kernel_rfl) ?_ _
  go_wp2
  go_ret3
  exact ⟨rfl, below_drewCd (Below.refl _ _)⟩
theorem Cut_any (s : ByteArray) (w : World) (hs : s.size ≤ 9223372036854775807) : Calls Tryz.prog 132 #[.string s, .string ⟨#[61]⟩] w fun e w' => ∃ (x y : ByteArray) (b : Bool), e = .returned (.tuple #[.string x, .string y, .bool b]) ∧ (x.data.toList, y.data.toList) = eqCut s.data.toList ∧ x.size ≤ s.size ∧ y.size ≤ s.size ∧ Below w.heap.size w w' := by
  rcases idx_cases s.data.toList 61 with ⟨h1, h2⟩ | ⟨i, h1, h2, h3, h4⟩
  · have HC := hide (cut_no s · h1)
    have HF := hide (eqCut_none h2)
    clear h1 h2
    go_enter Tryz.func132, Tryz.ntmps132
    go_wp2_with fail
    refine (HC.out _).mono ?_
    rintro e w' ⟨rfl, rfl⟩
    go_wp2
    go_ret3
    exact ⟨s, ⟨#[]⟩, false, rfl, by rw [HF.out], Nat.le_refl _, Nat.zero_le _, Below.refl _ _⟩
  · rw [ba_len] at h2
    have HC := hide (cut_at s i · h1 h2 hs)
    have HF := hide (show eqCut s.data.toList = (s.data.toList.take i, s.data.toList.drop (i + 1)) from (congrArg eqCut h3).trans (eqCut_some h4))
    obtain ⟨x, hx⟩ : ∃ x, s.extract 0 i = x := ⟨_, rfl⟩
    obtain ⟨y, hy⟩ : ∃ y, s.extract (i + 1) s.size = y := ⟨_, rfl⟩
    have HX := hide (show x.data.toList = s.data.toList.take i by rw [← hx]; exact xt_take s i)
    have HY := hide (show y.data.toList = s.data.toList.drop (i + 1) by rw [← hy]; exact xt_drop s (i + 1))
    have HXL := hide (show x.size ≤ s.size by rw [← ba_len x, ← ba_len s, HX.out, List.length_take]; omega)
    have HYL := hide (show y.size ≤ s.size by rw [← ba_len y, ← ba_len s, HY.out, List.length_drop]; omega)
    rw [hx, hy] at HC
    clear h1 h2 h3 h4 hx hy
    go_enter Tryz.func132, Tryz.ntmps132
    go_wp2_with fail
    refine (HC.out _).mono ?_
    rintro e w' ⟨rfl, hb⟩
    go_wp2
    go_ret3
    exact ⟨x, y, true, rfl, by rw [HF.out, HX.out, HY.out], HXL.out, HYL.out, hb⟩
def rdF (t : List UInt8) (o : Option Oq) : Option Oq := match o with | none => none | some o => if cText o = t then some o else none
/-- what is read -/
def RdV (o : Option Oq) (e : Ending) : Prop := match o with | some q => e = .returned (.iface 106 (qv q.kind q.r q.a q.s)) | none => e = .returned .nilIface ∨ PanC e
set_option maxRecDepth 100000 in
set_option maxHeartbeats 2000000 in
theorem read_anyCd (s : ByteArray) (w : World) (hs : s.size ≤ 9223372036854775807) : Calls Tryz.prog 196 #[.string s] w fun e w' => RdV (cOne s.data.toList) e ∧ Below w.heap.size w w' := by
  rw [← readF_is]
  have HC := hide (Cut_any s · hs)
  obtain ⟨t, ht⟩ : ∃ t, s.data.toList = t := ⟨_, rfl⟩
  rw [ht] at HC ⊢
  obtain ⟨p, hp⟩ : ∃ p, (eqCut t).1 = p := ⟨_, rfl⟩
  obtain ⟨q, hq⟩ : ∃ q, (eqCut t).2 = q := ⟨_, rfl⟩
  have HP := hide hp
  have HQ := hide hq
  obtain ⟨R, hR⟩ : ∃ R, readFCd t = R := ⟨_, rfl⟩
  have HR := hide hR
  rw [hR]
  have HT := hide ht
  clear hp hq hR ht
  go_enter Tryz.func196, Tryz.ntmps196
  go_wp2_with fail
  refine (HC.out _).mono ?_
  rintro e w1 ⟨x, y, b, rfl, hxy, -, -, hb1⟩
  have HXY := hide hxy
  clear hxy
  go_wp2_with fail
  (with_reducible refine (side_any x _).mono ?_)
  rintro e w2 ⟨rfl, hb2⟩
  have hB := bcall hb1 hb2
  clear hb1 hb2
  go_wp2_with fail
  (with_reducible refine (side_any y _).mono ?_)
  rintro e w3 ⟨rfl, hb3⟩
  replace hB := bcall hB hb3
  clear hb3
  obtain ⟨o, ho⟩ : ∃ o, opF (sideF x.data.toList) (sideF y.data.toList) = o := ⟨_, rfl⟩
  have HO := hide (opOf_any (sideF x.data.toList) (sideF y.data.toList) w3)
  rw [ho] at HO
  have HF := hide (show readFCd t = rdF t o by
    have e1 : (eqCut t).1 = x.data.toList := by rw [← HXY.out]
    have e2 : (eqCut t).2 = y.data.toList := by rw [← HXY.out]
    unfold readFCd rdF; rw [e1, e2, ho]; cases o <;> rfl)
  clear ho
  cases o with
  | none =>
    go_wp2_with fail
    (with_reducible refine HO.out.mono ?_)
    rintro e w4 ⟨⟨u, v, rfl⟩, hb4⟩
    replace hB := bcall hB hb4
    go_wp2
    refine ⟨rfl, ?_, hB⟩
    rw [← HR.out, HF.out, rdF]
    exact Or.inr ⟨_, _, rfl⟩
  | some o =>
    obtain ⟨k, r, a, z⟩ := o
    simp only [rdF] at HO HF
    go_wp2_with fail
    (with_reducible refine HO.out.mono ?_)
    rintro e w4 ⟨rfl, hb4⟩
    replace hB := bcall hB hb4
    clear hb4
    obtain ⟨w5, e5, hb5, hs5, X⟩ := b4_new w4 (.int .i64 k) (.int .i64 r) (.int .i64 a) (.int .i64 z) 106
    have HE5 := hide e5
    have HX := hide X
    replace hB := bcall hB hb5
    obtain ⟨X0, X1, X2, X3⟩ := X.all
    clear e5 X hb5
    go_upto_region 3 with (fail)
    rw [HE5.out]
    go_wp2_with fail
    (with_reducible refine (opText_any k r a z _).mono ?_)
    rintro e w6 ⟨rfl, hb6⟩
    have HX6 := hide (HX.out.below hb6)
    replace hB := bcall hB hb6
    clear X0 X1 X2 X3 hb6
    obtain ⟨X0, X1, X2, X3⟩ := HX6.out.all
    by_cases he : cText ⟨k, r, a, z⟩ = t
    · have HG := hide (show R = some ⟨k, r, a, z⟩ by rw [← HR.out, HF.out, if_pos he])
      obtain ⟨T, hT⟩ : ∃ T : ByteArray, (⟨(cText ⟨k, r, a, z⟩).toArray⟩ : ByteArray) = T := ⟨_, rfl⟩
      have q1 : (T.toList == s.toList) = true := by
        rw [beq_iff_eq, ba_list, ba_list, HT.out, ← hT, ← he]
      rw [hT]
      clear he hT
      go_wp2
      go_ret
      exact ⟨by rw [HG.out]; rfl, hB⟩
    · have HG := hide (show R = none by rw [← HR.out, HF.out, if_neg he])
      obtain ⟨T, hT⟩ : ∃ T : ByteArray, (⟨(cText ⟨k, r, a, z⟩).toArray⟩ : ByteArray) = T := ⟨_, rfl⟩
      have q1 : (T.toList == s.toList) = false := by
        rw [beq_eq_false_iff_ne, ba_list, ba_list, HT.out, ← hT]; exact he
      rw [hT]
      clear he hT
      go_wp2
      go_ret
      exact ⟨by rw [HG.out]; exact Or.inl rfl, hB⟩
end Go.Proofs.YtjnokhaojpijhaaGreatDoor
/- Layer code: the library's iterator over a text's pieces, for every loop body that may panic. -/
namespace Go.Proofs.YtjnokhaojpijhaaGreatDoor
open Go.RowKit Go.Shelf Go.Proofs
attribute [local go_sem] Oper.semAt_some
theorem set_sameCd {w : World} {g : Nat} {v x : Value} (h : w.cell? ⟨g, 0, none⟩ = some x) : (w.setCell ⟨g, 0, none⟩ v).cell? ⟨g, 0, none⟩ = some v := World.cell?_setCell_same' _ _ _ (by rw [h]; rfl)
theorem cut_step {t : List UInt8} {i : Nat} (h : t = t.take i ++ 59 :: t.drop (i + 1)) (hm : (59 : UInt8) ∉ t.take i) : cut 59 t = t.take i :: cut 59 (t.drop (i + 1)) := (congrArg (cut 59) h).trans (cut_pre _ _ _ hm)
set_option maxRecDepth 100000 in
set_option maxHeartbeats 4000000 in
theorem split_in (n : Nat) (hn : 1 ≤ n) (l Bp Bs Bv : Nat) (t0 : ByteArray) (h0s : t0.size ≤ 9223372036854775807) (J : List (List UInt8) → World → Prop) (Jp : List PanicEntry → World → Prop)
    (hJs : ∀ pre W v, J pre W → J pre (W.setCell ⟨Bs, 0, none⟩ v))
    (hJc : ∀ pre W, J pre W → W.cell? ⟨Bp, 0, none⟩ = some (.string ⟨#[59]⟩) ∧ W.cell? ⟨Bv, 0, none⟩ = some (.int .i64 0) ∧ W.frozen? ⟨Bs, 0, none⟩ = false)
    (hY : ∀ pre rest (x t : ByteArray) W, J pre W → W.cell? ⟨Bs, 0, none⟩ = some (.string t) → x.size ≤ t0.size → pre ++ x.data.toList :: rest = cut 59 t0.data.toList → YieldAt Fence.wide (n - 1) Tryz.prog l #[.string x] W fun e W' =>
      (e = .returned (.bool true) ∧ J (pre ++ [x.data.toList]) W' ∧ W'.cell? ⟨Bs, 0, none⟩ = some (.string t)) ∨ ∃ ch, e = .panicked ch ∧ Jp ch W')
    (W : World) (h0 : J [] W) (ht : W.cell? ⟨Bs, 0, none⟩ = some (.string t0)) :
    CallsIn Fence.wide n Tryz.prog 205 #[.func (.yield l) #[] #[], .pointer (some ⟨Bp, 0, none⟩), .pointer (some ⟨Bs, 0, none⟩), .pointer (some ⟨Bv, 0, none⟩)] W fun e W' =>
      ((∃ v, e = .returned v) ∧ J (cut 59 t0.data.toList) W') ∨ ∃ ch, e = .panicked ch ∧ Jp ch W' := by
  refine callsIn_of_wp Tryz.func205 rfl trivial ?_ rfl
  simp only [Tryz.ntmps205, List.size_toArray, List.length_cons, List.length_nil, Nat.reduceAdd, Nat.reduceSub, Array.replicate_succ, Array.replicate_zero, List.push_toArray, List.append_toArray, List.nil_append, List.cons_append]
  have HI := Go.Lib.hid Tryz.strings_Index_one
  obtain ⟨c1, c2, c3⟩ := hJc _ _ h0
  gi_wp2
  gi_loopw [7, 8] (fun iv fv wr => ∃ (pre : List (List UInt8)) (t : ByteArray), t.size ≤ t0.size ∧ pre ++ cut 59 t.data.toList = cut 59 t0.data.toList ∧ wr.cell? ⟨Bs, 0, none⟩ = some (.string t) ∧ J pre wr)
    (fun _ _ wr => match wr.cell? ⟨Bs, 0, none⟩ with | some (.string t) => t.size | _ => 0)
  case atStart => exact ⟨[], t0, Nat.le_refl _, rfl, ht, h0⟩
  case round =>
    obtain ⟨pre, t, htl, hx, hcs, hJ⟩ := hrel
    obtain ⟨c1, c2, c3⟩ := hJc _ _ hJ
    have HM := Go.Lib.hid hcs
    rcases idx_cases t.data.toList 59 with ⟨h1, h2⟩ | ⟨i, h1, h2, h3, h4⟩
    · have HQ := Go.Lib.hid h1
      have HX := Go.Lib.hid (show pre ++ t.data.toList :: [] = cut 59 t0.data.toList by rw [← hx, cut_all _ _ h2])
      obtain ⟨fn, tmps, assign, body, hy, hR⟩ := hY pre [] t t wr hJ hcs htl HX.out
      have HR := Go.Lib.hid hR
      clear h1 h2 hx hR
      gi_wp2_with (refine ⟨trivial, ?_⟩; gi_at_call 168; refine (callsIn_wide.2 (HI.out _ _ _)).mono ?_; rintro e w' ⟨rfl, rfl⟩; rw [HQ.out])
      refine HR.out.mono ?_
      rintro e W3 (⟨rfl, hJ3, -⟩ | ⟨ch, rfl, hp⟩)
      · gi_wp2
        go_end0
        exact Or.inl ⟨⟨_, rfl⟩, by rw [← HX.out]; exact hJ3⟩
      · exact ⟨rfl, Or.inr ⟨ch, rfl, hp⟩⟩
    · rw [ba_len] at h2
      have HQ := Go.Lib.hid h1
      have hcut := cut_step h3 h4
      obtain ⟨x, hxx⟩ : ∃ x, t.extract 0 i = x := ⟨_, rfl⟩
      obtain ⟨y, hyy⟩ : ∃ y, t.extract (i + 1) t.size = y := ⟨_, rfl⟩
      have ex : x.data.toList = t.data.toList.take i := by rw [← hxx]; exact xt_take t i
      have ey : y.data.toList = t.data.toList.drop (i + 1) := by rw [← hyy]; exact xt_drop t (i + 1)
      have hxl : x.size ≤ t0.size := by rw [← ba_len x, ex, List.length_take, ba_len]; omega
      have hyl : y.size < t.size := by rw [← ba_len y, ey, List.length_drop, ba_len]; omega
      rw [hcut, ← ex, ← ey] at hx
      have HX := Go.Lib.hid (show (pre ++ [x.data.toList]) ++ cut 59 y.data.toList = cut 59 t0.data.toList by rw [← hx]; simp)
      have d1 : (0 : Int) ≤ i := by omega
      have d2 : (i : Int) ≤ t.size := by omega
      have d3 : IntKind.i64.wrap (i : Int) = i := by simp [IntKind.wrap, IntKind.bits, IntKind.signed]; omega
      have d4 : IntKind.i64.wrap ((i : Int) + 1) = (i : Int) + 1 := by simp [IntKind.wrap, IntKind.bits, IntKind.signed]; omega
      have d5 : (0 : Int) ≤ i + 1 := by omega
      have d6 : (i : Int) + 1 ≤ t.size := by omega
      have d7 : ¬ (i : Int) < 0 := by omega
      obtain ⟨fn, tmps, assign, body, hy, hR⟩ := hY pre (cut 59 y.data.toList) x t wr hJ hcs hxl hx
      have HR := Go.Lib.hid hR
      clear h1 h2 h3 h4 hx hR hcut ex ey
      gi_wp2_with (refine ⟨trivial, ?_⟩; gi_at_call 168; refine (callsIn_wide.2 (HI.out _ _ _)).mono ?_; rintro e w' ⟨rfl, rfl⟩; rw [HQ.out])
      refine HR.out.mono ?_
      rintro e W3 (⟨rfl, hJ3, hc3⟩ | ⟨ch, rfl, hp⟩)
      · obtain ⟨b1, b2, b3⟩ := hJc _ _ hJ3
        gi_wp2
        go_roundw
        case rel => exact ⟨pre ++ [x.data.toList], y, by omega, HX.out, set_sameCd hc3, hJs _ _ _ hJ3⟩
        case measure => rw [set_sameCd hc3, HM.out]; exact hyl
      · exact ⟨rfl, Or.inr ⟨ch, rfl, hp⟩⟩
end Go.Proofs.YtjnokhaojpijhaaGreatDoor
