/- Layer code: opOf. -/
import Derived.Test.YtffdgkofolomlaaDoorCodeSide
namespace Go.Proofs.YtffdgkofolomlaaDoor
open Go.RowKit Go.Shelf Go.Proofs Go.Joins

theorem cdrew (W : World) (a : Addr) : W.drew.cell? a = W.cell? a := rfl
theorem c_set {n : Nat} {a w : World} (h : Below n a w) (b o : Nat) (hb : n ≤ b) (v : Value) : Below n a (w.setCell ⟨b, o, none⟩ v) := h.setCell (p := ⟨b, o, none⟩) hb v
theorem c_alloc {n : Nat} {a w : World} (h : Below n a w) (hn : n ≤ w.heap.size) (o : Obj) : Below n a (w.alloc o) := h.alloc hn o
theorem cset {w : World} {b g o j : Nat} {v x : Value} (h : w.cell? ⟨b, j, none⟩ = some x) (hne : b ≠ g) : (w.setCell ⟨g, o, none⟩ v).cell? ⟨b, j, none⟩ = some x := (World.cell?_of_block (Below.heap_setCell w ⟨g, o, none⟩ v b hne)).trans h
theorem cset4 {w : World} {b g j : Nat} {x v0 v1 v2 v3 : Value} (h : w.cell? ⟨b, j, none⟩ = some x) (hne : b ≠ g) : ((((w.setCell ⟨g, 0, none⟩ v0).setCell ⟨g, 1, none⟩ v1).setCell ⟨g, 2, none⟩ v2).setCell ⟨g, 3, none⟩ v3).drew.cell? ⟨b, j, none⟩ = some x := by
  rw [cdrew]
  exact cset (cset (cset (cset h hne) hne) hne) hne
/-- a panic -/
def PanC (e : Ending) : Prop := ∃ u v, e = .panicked [{ v := .iface u v, recovered := false }]
abbrev taErr (i d t : Value) : Obj := .cells #[i, d, t, .string .empty] 103
theorem as_reg_plc (x : Int) (w : World) : (Instr.typeAssert (regV x) 71 82 true).run Tryd.prog w = .ok (.tuple #[.agg #[.int .i64 0, .int .i64 0], .bool false]) w := by kernel_rfl
theorem as_reg_fre (x : Int) (w : World) : (Instr.typeAssert (regV x) 71 84 true).run Tryd.prog w = .ok (.tuple #[.agg #[], .bool false]) w := by kernel_rfl
theorem as_reg_non (x : Int) (w : World) : (Instr.typeAssert (regV x) 71 85 true).run Tryd.prog w = .ok (.tuple #[.agg #[], .bool false]) w := by kernel_rfl
theorem as_reg_reg (x : Int) (w : World) : (Instr.typeAssert (regV x) 71 80 false).run Tryd.prog w = .ok (.int .i64 x) w := by kernel_rfl
theorem as_plc_plc (x y : Int) (w : World) : (Instr.typeAssert (plcV x y) 71 82 true).run Tryd.prog w = .ok (.tuple #[.agg #[.int .i64 x, .int .i64 y], .bool true]) w := by kernel_rfl
theorem as_plc_fre (x y : Int) (w : World) : (Instr.typeAssert (plcV x y) 71 84 true).run Tryd.prog w = .ok (.tuple #[.agg #[], .bool false]) w := by kernel_rfl
theorem as_plc_non (x y : Int) (w : World) : (Instr.typeAssert (plcV x y) 71 85 true).run Tryd.prog w = .ok (.tuple #[.agg #[], .bool false]) w := by kernel_rfl
theorem as_plc_reg (x y : Int) (w : World) : (Instr.typeAssert (plcV x y) 71 80 false).run Tryd.prog w = .halt (.panic (.iface 15 (.pointer (some ⟨w.heap.size, 0, none⟩)))) (w.alloc (taErr (typeHandle Tryd.prog 71) (typeHandle Tryd.prog 82) (typeHandle Tryd.prog 80))) := by kernel_rfl
theorem as_fre_plc  (w : World) : (Instr.typeAssert (freV) 71 82 true).run Tryd.prog w = .ok (.tuple #[.agg #[.int .i64 0, .int .i64 0], .bool false]) w := by kernel_rfl
theorem as_fre_fre  (w : World) : (Instr.typeAssert (freV) 71 84 true).run Tryd.prog w = .ok (.tuple #[.agg #[], .bool true]) w := by kernel_rfl
theorem as_fre_non  (w : World) : (Instr.typeAssert (freV) 71 85 true).run Tryd.prog w = .ok (.tuple #[.agg #[], .bool false]) w := by kernel_rfl
theorem as_fre_reg  (w : World) : (Instr.typeAssert (freV) 71 80 false).run Tryd.prog w = .halt (.panic (.iface 15 (.pointer (some ⟨w.heap.size, 0, none⟩)))) (w.alloc (taErr (typeHandle Tryd.prog 71) (typeHandle Tryd.prog 84) (typeHandle Tryd.prog 80))) := by kernel_rfl
theorem as_non_plc  (w : World) : (Instr.typeAssert (nonV) 71 82 true).run Tryd.prog w = .ok (.tuple #[.agg #[.int .i64 0, .int .i64 0], .bool false]) w := by kernel_rfl
theorem as_non_fre  (w : World) : (Instr.typeAssert (nonV) 71 84 true).run Tryd.prog w = .ok (.tuple #[.agg #[], .bool false]) w := by kernel_rfl
theorem as_non_non  (w : World) : (Instr.typeAssert (nonV) 71 85 true).run Tryd.prog w = .ok (.tuple #[.agg #[], .bool true]) w := by kernel_rfl
theorem as_non_reg  (w : World) : (Instr.typeAssert (nonV) 71 80 false).run Tryd.prog w = .halt (.panic (.iface 15 (.pointer (some ⟨w.heap.size, 0, none⟩)))) (w.alloc (taErr (typeHandle Tryd.prog 71) (typeHandle Tryd.prog 85) (typeHandle Tryd.prog 80))) := by kernel_rfl
theorem as_bad_plc  (w : World) : (Instr.typeAssert (.nilIface) 71 82 true).run Tryd.prog w = .ok (.tuple #[.agg #[.int .i64 0, .int .i64 0], .bool false]) w := by kernel_rfl
theorem as_bad_fre  (w : World) : (Instr.typeAssert (.nilIface) 71 84 true).run Tryd.prog w = .ok (.tuple #[.agg #[], .bool false]) w := by kernel_rfl
theorem as_bad_non  (w : World) : (Instr.typeAssert (.nilIface) 71 85 true).run Tryd.prog w = .ok (.tuple #[.agg #[], .bool false]) w := by kernel_rfl
theorem as_bad_reg  (w : World) : (Instr.typeAssert (.nilIface) 71 80 false).run Tryd.prog w = .halt (.panic (.iface 15 (.pointer (some ⟨w.heap.size, 0, none⟩)))) (w.alloc (taErr (typeHandle Tryd.prog 71) (.pointer none) (typeHandle Tryd.prog 80))) := by kernel_rfl
set_option maxRecDepth 100000 in
set_option maxHeartbeats 2000000 in
theorem opOf_fre (v : Value) (w : World) : Calls Tryd.prog 41 #[freV, v] w fun e w' => PanC e ∧ Below w.heap.size w w' := by
  have f1 := as_fre_plc
  have f2 := as_fre_reg
  obtain ⟨w1, e1, hb1, hs1, X⟩ := b4_new w (.int .i64 0) (.int .i64 0) (.int .i64 0) (.int .i64 0) 24
  have HE1 := hide e1
  clear e1 X
  go_enter Tryd.func41, Tryd.ntmps41
  go_upto_region 1 with (fail)
  rw [HE1.out]
  go_wp2
  exact ⟨rfl, ⟨_, _, rfl⟩, bcall (bcall hb1 (cbal _ _)) (cbal _ _)⟩
set_option maxRecDepth 100000 in
set_option maxHeartbeats 2000000 in
theorem opOf_non (v : Value) (w : World) : Calls Tryd.prog 41 #[nonV, v] w fun e w' => PanC e ∧ Below w.heap.size w w' := by
  have f1 := as_non_plc
  have f2 := as_non_reg
  obtain ⟨w1, e1, hb1, hs1, X⟩ := b4_new w (.int .i64 0) (.int .i64 0) (.int .i64 0) (.int .i64 0) 24
  have HE1 := hide e1
  clear e1 X
  go_enter Tryd.func41, Tryd.ntmps41
  go_upto_region 1 with (fail)
  rw [HE1.out]
  go_wp2
  exact ⟨rfl, ⟨_, _, rfl⟩, bcall (bcall hb1 (cbal _ _)) (cbal _ _)⟩
set_option maxRecDepth 100000 in
set_option maxHeartbeats 2000000 in
theorem opOf_bad (v : Value) (w : World) : Calls Tryd.prog 41 #[.nilIface, v] w fun e w' => PanC e ∧ Below w.heap.size w w' := by
  have f1 := as_bad_plc
  have f2 := as_bad_reg
  obtain ⟨w1, e1, hb1, hs1, X⟩ := b4_new w (.int .i64 0) (.int .i64 0) (.int .i64 0) (.int .i64 0) 24
  have HE1 := hide e1
  clear e1 X
  go_enter Tryd.func41, Tryd.ntmps41
  go_upto_region 1 with (fail)
  rw [HE1.out]
  go_wp2
  exact ⟨rfl, ⟨_, _, rfl⟩, bcall (bcall hb1 (cbal _ _)) (cbal _ _)⟩
set_option maxRecDepth 100000 in
set_option maxHeartbeats 2000000 in
theorem opOf_plc_reg (a s r : Int) (w : World) : Calls Tryd.prog 41 #[plcV a s, regV r] w fun e w' => e = .returned (qv 2 r a s) ∧ Below w.heap.size w w' := by
  have f0 := as_plc_plc a s
  have f1 := as_reg_reg r
  obtain ⟨w1, e1, hb1, hs1, X⟩ := b4_new w (.int .i64 0) (.int .i64 0) (.int .i64 0) (.int .i64 0) 24
  obtain ⟨w2, e2, hb2, hs2, Y0, Y1, -, -⟩ := b2_new w1 (.int .i64 a) (.int .i64 s) 82
  have HE1 := hide e1
  have HE2 := hide e2
  have HX := hide (X.below hb2)
  have hB := bcall hb1 hb2
  rw [hs1] at Y0 Y1
  have HS2 := hide (show w2.heap.size = w.heap.size + 2 by omega)
  clear e1 e2 X hb1 hb2 hs1 hs2
  go_enter Tryd.func41, Tryd.ntmps41
  go_upto_region 2 with (fail)
  rw [HE1.out, HE2.out]
  go_wp2
  obtain ⟨X0, X1, X2, X3⟩ := HX.out.all
  obtain ⟨X4, X5, X6, X7⟩ := HX.out.free
  refine wp_region_held_drew (S := fun w' => w'.cell? ⟨w.heap.size + 1, 0, none⟩ = some (.int .i64 a) ∧ w'.cell? ⟨w.heap.size + 1, 1, none⟩ = some (.int .i64 s)) (by kernel_rfl) ?_ (fun hHeld => ?_)
  · exact (by first | (with_reducible exact ⟨Y0, Y1⟩) | (with_reducible exact ⟨cset4 Y0 (by omega), cset4 Y1 (by omega)⟩) | exact ⟨Y0, Y1⟩)
  refine wpAnyH_take (i := 0) (oi := { dst := some 17, op := Op.move (Operand.tmp 1), type := 71, pos := "piece.go:88", after := #[], guard := none }) (v := ?_) rfl (by kernel_rfl) (by kernel_rfl) (by kernel_rfl) (fun _ _ _ h => h) (Or.inl ⟨by rfl, ?_⟩) (by assumption) ?_
  rotate_left
  · intro w_ hSw; (try dsimp only at hSw); go_simp; (try with_reducible rfl)
  (try simp only [Act.put, List.setIfInBounds_toArray, List.set_cons_zero, List.set_cons_succ])
  refine wpAnyH_take (i := 1) (oi := { dst := some 18, op := Op.typeAssert (Operand.tmp 17) 71 80 false, type := 80, pos := "piece.go:88", after := #[{ on := 0, ground := Ground.data }], guard := none }) (v := ?_) rfl (by kernel_rfl) (by kernel_rfl) (by kernel_rfl) (fun _ _ _ h => h) (Or.inl ⟨by rfl, ?_⟩) (by assumption) ?_
  rotate_left
  · intro w_ hSw; (try dsimp only at hSw); go_simp; (try with_reducible rfl)
  (try simp only [Act.put, List.setIfInBounds_toArray, List.set_cons_zero, List.set_cons_succ])
  refine wpAnyH_take (i := 2) (oi := { dst := some 19, op := Op.fieldAddr 82 (Operand.tmp 5) 0, type := 0, pos := "piece.go:88", after := #[], guard := none }) (v := ?_) rfl (by kernel_rfl) (by kernel_rfl) (by kernel_rfl) (fun _ _ _ h => h) (Or.inl ⟨by rfl, ?_⟩) (by assumption) ?_
  rotate_left
  · intro w_ hSw; (try dsimp only at hSw); go_simp; (try with_reducible rfl)
  (try simp only [Act.put, List.setIfInBounds_toArray, List.set_cons_zero, List.set_cons_succ])
  refine wpAnyH_take (i := 3) (oi := { dst := some 20, op := Op.load 80 (Operand.tmp 19), type := 80, pos := "piece.go:88", after := #[{ on := 2, ground := Ground.data }], guard := none }) (v := ?_) rfl (by kernel_rfl) (by kernel_rfl) (by kernel_rfl) (fun _ _ _ h => h) (Or.inl ⟨by rfl, ?_⟩) (by assumption) ?_
  rotate_left
  · intro w_ hSw; (try dsimp only at hSw); go_simp; (try with_reducible rfl)
  (try simp only [Act.put, List.setIfInBounds_toArray, List.set_cons_zero, List.set_cons_succ])
  refine wpAnyH_take (i := 4) (oi := { dst := some 21, op := Op.fieldAddr 82 (Operand.tmp 5) 1, type := 0, pos := "piece.go:88", after := #[], guard := none }) (v := ?_) rfl (by kernel_rfl) (by kernel_rfl) (by kernel_rfl) (fun _ _ _ h => h) (Or.inl ⟨by rfl, ?_⟩) (by assumption) ?_
  rotate_left
  · intro w_ hSw; (try dsimp only at hSw); go_simp; (try with_reducible rfl)
  (try simp only [Act.put, List.setIfInBounds_toArray, List.set_cons_zero, List.set_cons_succ])
  refine wpAnyH_take (i := 5) (oi := { dst := some 22, op := Op.load 3 (Operand.tmp 21), type := 3, pos := "piece.go:88", after := #[{ on := 4, ground := Ground.data }], guard := none }) (v := ?_) rfl (by kernel_rfl) (by kernel_rfl) (by kernel_rfl) (fun _ _ _ h => h) (Or.inl ⟨by rfl, ?_⟩) (by assumption) ?_
  rotate_left
  · intro w_ hSw; (try dsimp only at hSw); go_simp; (try with_reducible rfl)
  (try simp only [Act.put, List.setIfInBounds_toArray, List.set_cons_zero, List.set_cons_succ])
  refine wpAnyH_take (i := 6) (oi := { dst := some 23, op := Op.build 24 #[(0, Operand.const (Value.int IntKind.i64 2)), (1, Operand.tmp 18), (2, Operand.tmp 20), (3, Operand.tmp 22)], type := 24, pos := "piece.go:88", after := #[{ on := 1, ground := Ground.data }, { on := 3, ground := Ground.data }, { on := 5, ground := Ground.data }], guard := none }) (v := ?_) rfl (by kernel_rfl) (by kernel_rfl) (by kernel_rfl) (fun _ _ _ h => h) (Or.inl ⟨by rfl, ?_⟩) (by assumption) ?_
  rotate_left
  · intro w_ hSw; (try dsimp only at hSw); go_simp; (try with_reducible rfl)
  (try simp only [Act.put, List.setIfInBounds_toArray, List.set_cons_zero, List.set_cons_succ])
  refine wpAnyH_ready (rs := [7]) (by kernel_rfl) (by simp) ?_
  refine AllReadyH.cons rfl (fun K hK => ?_) AllReadyH.nil
  go_simp
  (try go_simp)
  refine hK.out _ _ (by first | (with_reducible exact ⟨Y0, Y1⟩) | (with_reducible exact ⟨cset4 Y0 (by omega), cset4 Y1 (by omega)⟩) | exact ⟨Y0, Y1⟩) (fun hHeld => ?_)
  (try simp only [Act.put, List.setIfInBounds_toArray, List.set_cons_zero, List.set_cons_succ])
  refine wpAnyH_done (by kernel_rfl) ?_ _
  go_wp2
  refine bodyPost_ret (v := qv 2 r a s) (by simp [results, Tryd.results41, go_sem, X0, X1, X2, X3]) rfl ⟨rfl, ?_⟩
  repeat (first | (with_reducible exact hB) | (with_reducible refine c_set ?_ _ _ (by omega) _) | (with_reducible refine below_drew ?_))
set_option maxRecDepth 100000 in
set_option maxHeartbeats 2000000 in
theorem opOf_plc_plc (a s : Int) (x y : Int) (w : World) : Calls Tryd.prog 41 #[plcV a s, plcV x y] w fun e w' => PanC e ∧ Below w.heap.size w w' := by
  have f0 := as_plc_plc a s
  have f1 := as_plc_reg x y
  obtain ⟨w1, e1, hb1, hs1, X⟩ := b4_new w (.int .i64 0) (.int .i64 0) (.int .i64 0) (.int .i64 0) 24
  obtain ⟨w2, e2, hb2, hs2, Y0, Y1, -, -⟩ := b2_new w1 (.int .i64 a) (.int .i64 s) 82
  have HE1 := hide e1
  have HE2 := hide e2
  have HX := hide (X.below hb2)
  have hB := bcall hb1 hb2
  rw [hs1] at Y0 Y1
  have HS2 := hide (show w2.heap.size = w.heap.size + 2 by omega)
  clear e1 e2 X hb1 hb2 hs1 hs2
  go_enter Tryd.func41, Tryd.ntmps41
  go_upto_region 2 with (fail)
  rw [HE1.out, HE2.out]
  go_wp2
  refine wp_region_held_drew (S := fun w' => w'.cell? ⟨w.heap.size + 1, 0, none⟩ = some (.int .i64 a) ∧ w'.cell? ⟨w.heap.size + 1, 1, none⟩ = some (.int .i64 s)) (by kernel_rfl) ?_ (fun hHeld => ?_)
  · exact (by first | (with_reducible exact ⟨Y0, Y1⟩) | (with_reducible exact ⟨cset4 Y0 (by omega), cset4 Y1 (by omega)⟩) | exact ⟨Y0, Y1⟩)
  refine wpAnyH_take (i := 0) (oi := { dst := some 17, op := Op.move (Operand.tmp 1), type := 71, pos := "piece.go:88", after := #[], guard := none }) (v := ?_) rfl (by kernel_rfl) (by kernel_rfl) (by kernel_rfl) (fun _ _ _ h => h) (Or.inl ⟨by rfl, ?_⟩) (by assumption) ?_
  rotate_left
  · intro w_ hSw; (try dsimp only at hSw); go_simp; (try with_reducible rfl)
  (try simp only [Act.put, List.setIfInBounds_toArray, List.set_cons_zero, List.set_cons_succ])
  refine wpAnyH_take (i := 2) (oi := { dst := some 19, op := Op.fieldAddr 82 (Operand.tmp 5) 0, type := 0, pos := "piece.go:88", after := #[], guard := none }) (v := ?_) rfl (by kernel_rfl) (by kernel_rfl) (by kernel_rfl) (fun _ _ _ h => h) (Or.inl ⟨by rfl, ?_⟩) (by assumption) ?_
  rotate_left
  · intro w_ hSw; (try dsimp only at hSw); go_simp; (try with_reducible rfl)
  (try simp only [Act.put, List.setIfInBounds_toArray, List.set_cons_zero, List.set_cons_succ])
  refine wpAnyH_take (i := 3) (oi := { dst := some 20, op := Op.load 80 (Operand.tmp 19), type := 80, pos := "piece.go:88", after := #[{ on := 2, ground := Ground.data }], guard := none }) (v := ?_) rfl (by kernel_rfl) (by kernel_rfl) (by kernel_rfl) (fun _ _ _ h => h) (Or.inl ⟨by rfl, ?_⟩) (by assumption) ?_
  rotate_left
  · intro w_ hSw; (try dsimp only at hSw); go_simp; (try with_reducible rfl)
  (try simp only [Act.put, List.setIfInBounds_toArray, List.set_cons_zero, List.set_cons_succ])
  refine wpAnyH_take (i := 4) (oi := { dst := some 21, op := Op.fieldAddr 82 (Operand.tmp 5) 1, type := 0, pos := "piece.go:88", after := #[], guard := none }) (v := ?_) rfl (by kernel_rfl) (by kernel_rfl) (by kernel_rfl) (fun _ _ _ h => h) (Or.inl ⟨by rfl, ?_⟩) (by assumption) ?_
  rotate_left
  · intro w_ hSw; (try dsimp only at hSw); go_simp; (try with_reducible rfl)
  (try simp only [Act.put, List.setIfInBounds_toArray, List.set_cons_zero, List.set_cons_succ])
  refine wpAnyH_take (i := 5) (oi := { dst := some 22, op := Op.load 3 (Operand.tmp 21), type := 3, pos := "piece.go:88", after := #[{ on := 4, ground := Ground.data }], guard := none }) (v := ?_) rfl (by kernel_rfl) (by kernel_rfl) (by kernel_rfl) (fun _ _ _ h => h) (Or.inl ⟨by rfl, ?_⟩) (by assumption) ?_
  rotate_left
  · intro w_ hSw; (try dsimp only at hSw); go_simp; (try with_reducible rfl)
  (try simp only [Act.put, List.setIfInBounds_toArray, List.set_cons_zero, List.set_cons_succ])
  refine wpAnyH_ready (rs := [1]) (by kernel_rfl) (by simp) ?_
  refine AllReadyH.cons rfl (fun K hK => ?_) AllReadyH.nil
  clear hK
  go_simp
  refine ⟨rfl, ⟨_, _, rfl⟩, ?_⟩
  have HS := HS2.out
  repeat (first | (with_reducible exact hB) | (with_reducible refine c_alloc ?_ (by omega) _) | (with_reducible refine below_drew ?_))
set_option maxRecDepth 100000 in
set_option maxHeartbeats 2000000 in
theorem opOf_plc_fre (a s : Int)  (w : World) : Calls Tryd.prog 41 #[plcV a s, freV] w fun e w' => PanC e ∧ Below w.heap.size w w' := by
  have f0 := as_plc_plc a s
  have f1 := as_fre_reg 
  obtain ⟨w1, e1, hb1, hs1, X⟩ := b4_new w (.int .i64 0) (.int .i64 0) (.int .i64 0) (.int .i64 0) 24
  obtain ⟨w2, e2, hb2, hs2, Y0, Y1, -, -⟩ := b2_new w1 (.int .i64 a) (.int .i64 s) 82
  have HE1 := hide e1
  have HE2 := hide e2
  have HX := hide (X.below hb2)
  have hB := bcall hb1 hb2
  rw [hs1] at Y0 Y1
  have HS2 := hide (show w2.heap.size = w.heap.size + 2 by omega)
  clear e1 e2 X hb1 hb2 hs1 hs2
  go_enter Tryd.func41, Tryd.ntmps41
  go_upto_region 2 with (fail)
  rw [HE1.out, HE2.out]
  go_wp2
  refine wp_region_held_drew (S := fun w' => w'.cell? ⟨w.heap.size + 1, 0, none⟩ = some (.int .i64 a) ∧ w'.cell? ⟨w.heap.size + 1, 1, none⟩ = some (.int .i64 s)) (by kernel_rfl) ?_ (fun hHeld => ?_)
  · exact (by first | (with_reducible exact ⟨Y0, Y1⟩) | (with_reducible exact ⟨cset4 Y0 (by omega), cset4 Y1 (by omega)⟩) | exact ⟨Y0, Y1⟩)
  refine wpAnyH_take (i := 0) (oi := { dst := some 17, op := Op.move (Operand.tmp 1), type := 71, pos := "piece.go:88", after := #[], guard := none }) (v := ?_) rfl (by kernel_rfl) (by kernel_rfl) (by kernel_rfl) (fun _ _ _ h => h) (Or.inl ⟨by rfl, ?_⟩) (by assumption) ?_
  rotate_left
  · intro w_ hSw; (try dsimp only at hSw); go_simp; (try with_reducible rfl)
  (try simp only [Act.put, List.setIfInBounds_toArray, List.set_cons_zero, List.set_cons_succ])
  refine wpAnyH_take (i := 2) (oi := { dst := some 19, op := Op.fieldAddr 82 (Operand.tmp 5) 0, type := 0, pos := "piece.go:88", after := #[], guard := none }) (v := ?_) rfl (by kernel_rfl) (by kernel_rfl) (by kernel_rfl) (fun _ _ _ h => h) (Or.inl ⟨by rfl, ?_⟩) (by assumption) ?_
  rotate_left
  · intro w_ hSw; (try dsimp only at hSw); go_simp; (try with_reducible rfl)
  (try simp only [Act.put, List.setIfInBounds_toArray, List.set_cons_zero, List.set_cons_succ])
  refine wpAnyH_take (i := 3) (oi := { dst := some 20, op := Op.load 80 (Operand.tmp 19), type := 80, pos := "piece.go:88", after := #[{ on := 2, ground := Ground.data }], guard := none }) (v := ?_) rfl (by kernel_rfl) (by kernel_rfl) (by kernel_rfl) (fun _ _ _ h => h) (Or.inl ⟨by rfl, ?_⟩) (by assumption) ?_
  rotate_left
  · intro w_ hSw; (try dsimp only at hSw); go_simp; (try with_reducible rfl)
  (try simp only [Act.put, List.setIfInBounds_toArray, List.set_cons_zero, List.set_cons_succ])
  refine wpAnyH_take (i := 4) (oi := { dst := some 21, op := Op.fieldAddr 82 (Operand.tmp 5) 1, type := 0, pos := "piece.go:88", after := #[], guard := none }) (v := ?_) rfl (by kernel_rfl) (by kernel_rfl) (by kernel_rfl) (fun _ _ _ h => h) (Or.inl ⟨by rfl, ?_⟩) (by assumption) ?_
  rotate_left
  · intro w_ hSw; (try dsimp only at hSw); go_simp; (try with_reducible rfl)
  (try simp only [Act.put, List.setIfInBounds_toArray, List.set_cons_zero, List.set_cons_succ])
  refine wpAnyH_take (i := 5) (oi := { dst := some 22, op := Op.load 3 (Operand.tmp 21), type := 3, pos := "piece.go:88", after := #[{ on := 4, ground := Ground.data }], guard := none }) (v := ?_) rfl (by kernel_rfl) (by kernel_rfl) (by kernel_rfl) (fun _ _ _ h => h) (Or.inl ⟨by rfl, ?_⟩) (by assumption) ?_
  rotate_left
  · intro w_ hSw; (try dsimp only at hSw); go_simp; (try with_reducible rfl)
  (try simp only [Act.put, List.setIfInBounds_toArray, List.set_cons_zero, List.set_cons_succ])
  refine wpAnyH_ready (rs := [1]) (by kernel_rfl) (by simp) ?_
  refine AllReadyH.cons rfl (fun K hK => ?_) AllReadyH.nil
  clear hK
  go_simp
  refine ⟨rfl, ⟨_, _, rfl⟩, ?_⟩
  have HS := HS2.out
  repeat (first | (with_reducible exact hB) | (with_reducible refine c_alloc ?_ (by omega) _) | (with_reducible refine below_drew ?_))
set_option maxRecDepth 100000 in
set_option maxHeartbeats 2000000 in
theorem opOf_plc_non (a s : Int)  (w : World) : Calls Tryd.prog 41 #[plcV a s, nonV] w fun e w' => PanC e ∧ Below w.heap.size w w' := by
  have f0 := as_plc_plc a s
  have f1 := as_non_reg 
  obtain ⟨w1, e1, hb1, hs1, X⟩ := b4_new w (.int .i64 0) (.int .i64 0) (.int .i64 0) (.int .i64 0) 24
  obtain ⟨w2, e2, hb2, hs2, Y0, Y1, -, -⟩ := b2_new w1 (.int .i64 a) (.int .i64 s) 82
  have HE1 := hide e1
  have HE2 := hide e2
  have HX := hide (X.below hb2)
  have hB := bcall hb1 hb2
  rw [hs1] at Y0 Y1
  have HS2 := hide (show w2.heap.size = w.heap.size + 2 by omega)
  clear e1 e2 X hb1 hb2 hs1 hs2
  go_enter Tryd.func41, Tryd.ntmps41
  go_upto_region 2 with (fail)
  rw [HE1.out, HE2.out]
  go_wp2
  refine wp_region_held_drew (S := fun w' => w'.cell? ⟨w.heap.size + 1, 0, none⟩ = some (.int .i64 a) ∧ w'.cell? ⟨w.heap.size + 1, 1, none⟩ = some (.int .i64 s)) (by kernel_rfl) ?_ (fun hHeld => ?_)
  · exact (by first | (with_reducible exact ⟨Y0, Y1⟩) | (with_reducible exact ⟨cset4 Y0 (by omega), cset4 Y1 (by omega)⟩) | exact ⟨Y0, Y1⟩)
  refine wpAnyH_take (i := 0) (oi := { dst := some 17, op := Op.move (Operand.tmp 1), type := 71, pos := "piece.go:88", after := #[], guard := none }) (v := ?_) rfl (by kernel_rfl) (by kernel_rfl) (by kernel_rfl) (fun _ _ _ h => h) (Or.inl ⟨by rfl, ?_⟩) (by assumption) ?_
  rotate_left
  · intro w_ hSw; (try dsimp only at hSw); go_simp; (try with_reducible rfl)
  (try simp only [Act.put, List.setIfInBounds_toArray, List.set_cons_zero, List.set_cons_succ])
  refine wpAnyH_take (i := 2) (oi := { dst := some 19, op := Op.fieldAddr 82 (Operand.tmp 5) 0, type := 0, pos := "piece.go:88", after := #[], guard := none }) (v := ?_) rfl (by kernel_rfl) (by kernel_rfl) (by kernel_rfl) (fun _ _ _ h => h) (Or.inl ⟨by rfl, ?_⟩) (by assumption) ?_
  rotate_left
  · intro w_ hSw; (try dsimp only at hSw); go_simp; (try with_reducible rfl)
  (try simp only [Act.put, List.setIfInBounds_toArray, List.set_cons_zero, List.set_cons_succ])
  refine wpAnyH_take (i := 3) (oi := { dst := some 20, op := Op.load 80 (Operand.tmp 19), type := 80, pos := "piece.go:88", after := #[{ on := 2, ground := Ground.data }], guard := none }) (v := ?_) rfl (by kernel_rfl) (by kernel_rfl) (by kernel_rfl) (fun _ _ _ h => h) (Or.inl ⟨by rfl, ?_⟩) (by assumption) ?_
  rotate_left
  · intro w_ hSw; (try dsimp only at hSw); go_simp; (try with_reducible rfl)
  (try simp only [Act.put, List.setIfInBounds_toArray, List.set_cons_zero, List.set_cons_succ])
  refine wpAnyH_take (i := 4) (oi := { dst := some 21, op := Op.fieldAddr 82 (Operand.tmp 5) 1, type := 0, pos := "piece.go:88", after := #[], guard := none }) (v := ?_) rfl (by kernel_rfl) (by kernel_rfl) (by kernel_rfl) (fun _ _ _ h => h) (Or.inl ⟨by rfl, ?_⟩) (by assumption) ?_
  rotate_left
  · intro w_ hSw; (try dsimp only at hSw); go_simp; (try with_reducible rfl)
  (try simp only [Act.put, List.setIfInBounds_toArray, List.set_cons_zero, List.set_cons_succ])
  refine wpAnyH_take (i := 5) (oi := { dst := some 22, op := Op.load 3 (Operand.tmp 21), type := 3, pos := "piece.go:88", after := #[{ on := 4, ground := Ground.data }], guard := none }) (v := ?_) rfl (by kernel_rfl) (by kernel_rfl) (by kernel_rfl) (fun _ _ _ h => h) (Or.inl ⟨by rfl, ?_⟩) (by assumption) ?_
  rotate_left
  · intro w_ hSw; (try dsimp only at hSw); go_simp; (try with_reducible rfl)
  (try simp only [Act.put, List.setIfInBounds_toArray, List.set_cons_zero, List.set_cons_succ])
  refine wpAnyH_ready (rs := [1]) (by kernel_rfl) (by simp) ?_
  refine AllReadyH.cons rfl (fun K hK => ?_) AllReadyH.nil
  clear hK
  go_simp
  refine ⟨rfl, ⟨_, _, rfl⟩, ?_⟩
  have HS := HS2.out
  repeat (first | (with_reducible exact hB) | (with_reducible refine c_alloc ?_ (by omega) _) | (with_reducible refine below_drew ?_))
set_option maxRecDepth 100000 in
set_option maxHeartbeats 2000000 in
theorem opOf_plc_bad (a s : Int)  (w : World) : Calls Tryd.prog 41 #[plcV a s, .nilIface] w fun e w' => PanC e ∧ Below w.heap.size w w' := by
  have f0 := as_plc_plc a s
  have f1 := as_bad_reg 
  obtain ⟨w1, e1, hb1, hs1, X⟩ := b4_new w (.int .i64 0) (.int .i64 0) (.int .i64 0) (.int .i64 0) 24
  obtain ⟨w2, e2, hb2, hs2, Y0, Y1, -, -⟩ := b2_new w1 (.int .i64 a) (.int .i64 s) 82
  have HE1 := hide e1
  have HE2 := hide e2
  have HX := hide (X.below hb2)
  have hB := bcall hb1 hb2
  rw [hs1] at Y0 Y1
  have HS2 := hide (show w2.heap.size = w.heap.size + 2 by omega)
  clear e1 e2 X hb1 hb2 hs1 hs2
  go_enter Tryd.func41, Tryd.ntmps41
  go_upto_region 2 with (fail)
  rw [HE1.out, HE2.out]
  go_wp2
  refine wp_region_held_drew (S := fun w' => w'.cell? ⟨w.heap.size + 1, 0, none⟩ = some (.int .i64 a) ∧ w'.cell? ⟨w.heap.size + 1, 1, none⟩ = some (.int .i64 s)) (by kernel_rfl) ?_ (fun hHeld => ?_)
  · exact (by first | (with_reducible exact ⟨Y0, Y1⟩) | (with_reducible exact ⟨cset4 Y0 (by omega), cset4 Y1 (by omega)⟩) | exact ⟨Y0, Y1⟩)
  refine wpAnyH_take (i := 0) (oi := { dst := some 17, op := Op.move (Operand.tmp 1), type := 71, pos := "piece.go:88", after := #[], guard := none }) (v := ?_) rfl (by kernel_rfl) (by kernel_rfl) (by kernel_rfl) (fun _ _ _ h => h) (Or.inl ⟨by rfl, ?_⟩) (by assumption) ?_
  rotate_left
  · intro w_ hSw; (try dsimp only at hSw); go_simp; (try with_reducible rfl)
  (try simp only [Act.put, List.setIfInBounds_toArray, List.set_cons_zero, List.set_cons_succ])
  refine wpAnyH_take (i := 2) (oi := { dst := some 19, op := Op.fieldAddr 82 (Operand.tmp 5) 0, type := 0, pos := "piece.go:88", after := #[], guard := none }) (v := ?_) rfl (by kernel_rfl) (by kernel_rfl) (by kernel_rfl) (fun _ _ _ h => h) (Or.inl ⟨by rfl, ?_⟩) (by assumption) ?_
  rotate_left
  · intro w_ hSw; (try dsimp only at hSw); go_simp; (try with_reducible rfl)
  (try simp only [Act.put, List.setIfInBounds_toArray, List.set_cons_zero, List.set_cons_succ])
  refine wpAnyH_take (i := 3) (oi := { dst := some 20, op := Op.load 80 (Operand.tmp 19), type := 80, pos := "piece.go:88", after := #[{ on := 2, ground := Ground.data }], guard := none }) (v := ?_) rfl (by kernel_rfl) (by kernel_rfl) (by kernel_rfl) (fun _ _ _ h => h) (Or.inl ⟨by rfl, ?_⟩) (by assumption) ?_
  rotate_left
  · intro w_ hSw; (try dsimp only at hSw); go_simp; (try with_reducible rfl)
  (try simp only [Act.put, List.setIfInBounds_toArray, List.set_cons_zero, List.set_cons_succ])
  refine wpAnyH_take (i := 4) (oi := { dst := some 21, op := Op.fieldAddr 82 (Operand.tmp 5) 1, type := 0, pos := "piece.go:88", after := #[], guard := none }) (v := ?_) rfl (by kernel_rfl) (by kernel_rfl) (by kernel_rfl) (fun _ _ _ h => h) (Or.inl ⟨by rfl, ?_⟩) (by assumption) ?_
  rotate_left
  · intro w_ hSw; (try dsimp only at hSw); go_simp; (try with_reducible rfl)
  (try simp only [Act.put, List.setIfInBounds_toArray, List.set_cons_zero, List.set_cons_succ])
  refine wpAnyH_take (i := 5) (oi := { dst := some 22, op := Op.load 3 (Operand.tmp 21), type := 3, pos := "piece.go:88", after := #[{ on := 4, ground := Ground.data }], guard := none }) (v := ?_) rfl (by kernel_rfl) (by kernel_rfl) (by kernel_rfl) (fun _ _ _ h => h) (Or.inl ⟨by rfl, ?_⟩) (by assumption) ?_
  rotate_left
  · intro w_ hSw; (try dsimp only at hSw); go_simp; (try with_reducible rfl)
  (try simp only [Act.put, List.setIfInBounds_toArray, List.set_cons_zero, List.set_cons_succ])
  refine wpAnyH_ready (rs := [1]) (by kernel_rfl) (by simp) ?_
  refine AllReadyH.cons rfl (fun K hK => ?_) AllReadyH.nil
  clear hK
  go_simp
  refine ⟨rfl, ⟨_, _, rfl⟩, ?_⟩
  have HS := HS2.out
  repeat (first | (with_reducible exact hB) | (with_reducible refine c_alloc ?_ (by omega) _) | (with_reducible refine below_drew ?_))
set_option maxRecDepth 100000 in
set_option maxHeartbeats 2000000 in
theorem opOf_reg_plc (r x y : Int) (w : World) : Calls Tryd.prog 41 #[regV r, plcV x y] w fun e w' => e = .returned (qv 1 r x y) ∧ Below w.heap.size w w' := by
  have f0 := as_reg_plc r
  have f1 := as_reg_reg r
  have f2 := as_plc_plc x y
  obtain ⟨w1, e1, hb1, hs1, X⟩ := b4_new w (.int .i64 0) (.int .i64 0) (.int .i64 0) (.int .i64 0) 24
  obtain ⟨w2, e2, hb2, hs2, Y0, Y1, -, -⟩ := b2_new w1 (.int .i64 0) (.int .i64 0) 82
  have HE1 := hide e1
  have HE2 := hide e2
  have HX := hide (X.below hb2)
  have hB := bcall hb1 hb2
  rw [hs1] at Y0 Y1
  have HS2 := hide (show w2.heap.size = w.heap.size + 2 by omega)
  clear e1 e2 X hb1 hb2 hs1 hs2
  go_enter Tryd.func41, Tryd.ntmps41
  go_upto_region 2 with (fail)
  rw [HE1.out, HE2.out]
  obtain ⟨w3, e3, hb3, hs3, W0, W1, -, -⟩ := b2_new w2 (.int .i64 x) (.int .i64 y) 82
  have HE3 := hide e3
  have HX := hide (HX.out.below hb3)
  have hB := bcall hB hb3
  clear e3 hb3 hs3 Y0 Y1
  go_upto_region 8 with (fail)
  rw [HE3.out]
  obtain ⟨X0, X1, X2, X3⟩ := HX.out.all
  obtain ⟨X4, X5, X6, X7⟩ := HX.out.free
  go_wp2
  refine bodyPost_ret (v := qv 1 r x y) (by simp [results, Tryd.results41, go_sem, X0, X1, X2, X3]) rfl ⟨rfl, ?_⟩
  repeat (first | (with_reducible exact hB) | (with_reducible refine c_set ?_ _ _ (by omega) _) | (with_reducible refine below_drew ?_))
set_option maxRecDepth 100000 in
set_option maxHeartbeats 2000000 in
theorem opOf_reg_fre (r : Int) (w : World) : Calls Tryd.prog 41 #[regV r, freV] w fun e w' => e = .returned (qv 3 r 0 0) ∧ Below w.heap.size w w' := by
  have f0 := as_reg_plc r
  have f1 := as_reg_reg r
  have f2 := as_fre_plc 
  have f3 := as_fre_fre 
  obtain ⟨w1, e1, hb1, hs1, X⟩ := b4_new w (.int .i64 0) (.int .i64 0) (.int .i64 0) (.int .i64 0) 24
  obtain ⟨w2, e2, hb2, hs2, Y0, Y1, -, -⟩ := b2_new w1 (.int .i64 0) (.int .i64 0) 82
  have HE1 := hide e1
  have HE2 := hide e2
  have HX := hide (X.below hb2)
  have hB := bcall hb1 hb2
  rw [hs1] at Y0 Y1
  have HS2 := hide (show w2.heap.size = w.heap.size + 2 by omega)
  clear e1 e2 X hb1 hb2 hs1 hs2
  go_enter Tryd.func41, Tryd.ntmps41
  go_upto_region 2 with (fail)
  rw [HE1.out, HE2.out]
  obtain ⟨w3, e3, hb3⟩ : ∃ w3, w2.alloc (.cells #[] 84) = w3 ∧ Below w2.heap.size w2 w3 := ⟨_, rfl, cbal _ _⟩
  have HE3 := hide e3
  have HX := hide (HX.out.below hb3)
  have hB := bcall hB hb3
  clear e3 hb3 Y0 Y1
  go_upto_region 11 with (fail)
  rw [HE3.out]
  obtain ⟨X0, X1, X2, X3⟩ := HX.out.all
  obtain ⟨X4, X5, X6, X7⟩ := HX.out.free
  go_wp2
  refine bodyPost_ret (v := qv 3 r 0 0) (by simp [results, Tryd.results41, go_sem, X0, X1, X2, X3]) rfl ⟨rfl, ?_⟩
  repeat (first | (with_reducible exact hB) | (with_reducible refine c_set ?_ _ _ (by omega) _) | (with_reducible refine below_drew ?_))
set_option maxRecDepth 100000 in
set_option maxHeartbeats 2000000 in
theorem opOf_reg_non (r : Int) (w : World) : Calls Tryd.prog 41 #[regV r, nonV] w fun e w' => e = .returned (qv 5 r 0 0) ∧ Below w.heap.size w w' := by
  have f0 := as_reg_plc r
  have f1 := as_reg_reg r
  have f2 := as_non_plc 
  have f3 := as_non_fre 
  have f4 := as_non_non 
  obtain ⟨w1, e1, hb1, hs1, X⟩ := b4_new w (.int .i64 0) (.int .i64 0) (.int .i64 0) (.int .i64 0) 24
  obtain ⟨w2, e2, hb2, hs2, Y0, Y1, -, -⟩ := b2_new w1 (.int .i64 0) (.int .i64 0) 82
  have HE1 := hide e1
  have HE2 := hide e2
  have HX := hide (X.below hb2)
  have hB := bcall hb1 hb2
  rw [hs1] at Y0 Y1
  have HS2 := hide (show w2.heap.size = w.heap.size + 2 by omega)
  clear e1 e2 X hb1 hb2 hs1 hs2
  go_enter Tryd.func41, Tryd.ntmps41
  go_upto_region 2 with (fail)
  rw [HE1.out, HE2.out]
  obtain ⟨w3, e3, hb3⟩ : ∃ w3, w2.alloc (.cells #[] 85) = w3 ∧ Below w2.heap.size w2 w3 := ⟨_, rfl, cbal _ _⟩
  have HE3 := hide e3
  have HX := hide (HX.out.below hb3)
  have hB := bcall hB hb3
  clear e3 hb3 Y0 Y1
  go_upto_region 14 with (fail)
  rw [HE3.out]
  obtain ⟨X0, X1, X2, X3⟩ := HX.out.all
  obtain ⟨X4, X5, X6, X7⟩ := HX.out.free
  go_wp2
  refine bodyPost_ret (v := qv 5 r 0 0) (by simp [results, Tryd.results41, go_sem, X0, X1, X2, X3]) rfl ⟨rfl, ?_⟩
  repeat (first | (with_reducible exact hB) | (with_reducible refine c_set ?_ _ _ (by omega) _) | (with_reducible refine below_drew ?_))
set_option maxRecDepth 100000 in
set_option maxHeartbeats 2000000 in
theorem opOf_reg_reg (r x : Int) (w : World) : Calls Tryd.prog 41 #[regV r, regV x] w fun e w' => e = .returned (qv 4 r x 0) ∧ Below w.heap.size w w' := by
  have f0 := as_reg_plc r
  have f1 := as_reg_reg r
  have f2 := as_reg_plc x
  have f3 := as_reg_fre x
  have f4 := as_reg_non x
  have f5 := as_reg_reg x
  obtain ⟨w1, e1, hb1, hs1, X⟩ := b4_new w (.int .i64 0) (.int .i64 0) (.int .i64 0) (.int .i64 0) 24
  obtain ⟨w2, e2, hb2, hs2, Y0, Y1, -, -⟩ := b2_new w1 (.int .i64 0) (.int .i64 0) 82
  have HE1 := hide e1
  have HE2 := hide e2
  have HX := hide (X.below hb2)
  have hB := bcall hb1 hb2
  rw [hs1] at Y0 Y1
  have HS2 := hide (show w2.heap.size = w.heap.size + 2 by omega)
  clear e1 e2 X hb1 hb2 hs1 hs2
  go_enter Tryd.func41, Tryd.ntmps41
  go_upto_region 2 with (fail)
  rw [HE1.out, HE2.out]
  obtain ⟨X0, X1, X2, X3⟩ := HX.out.all
  obtain ⟨X4, X5, X6, X7⟩ := HX.out.free
  go_wp2
  refine bodyPost_ret (v := qv 4 r x 0) (by simp [results, Tryd.results41, go_sem, X0, X1, X2, X3]) rfl ⟨rfl, ?_⟩
  repeat (first | (with_reducible exact hB) | (with_reducible refine c_set ?_ _ _ (by omega) _) | (with_reducible refine below_drew ?_))
set_option maxRecDepth 100000 in
set_option maxHeartbeats 2000000 in
theorem opOf_reg_bad (r : Int) (w : World) : Calls Tryd.prog 41 #[regV r, .nilIface] w fun e w' => PanC e ∧ Below w.heap.size w w' := by
  have f0 := as_reg_plc r
  have f1 := as_reg_reg r
  have f2 := as_bad_plc 
  have f3 := as_bad_fre 
  have f4 := as_bad_non 
  have f5 := as_bad_reg 
  obtain ⟨w1, e1, hb1, hs1, X⟩ := b4_new w (.int .i64 0) (.int .i64 0) (.int .i64 0) (.int .i64 0) 24
  obtain ⟨w2, e2, hb2, hs2, Y0, Y1, -, -⟩ := b2_new w1 (.int .i64 0) (.int .i64 0) 82
  have HE1 := hide e1
  have HE2 := hide e2
  have HX := hide (X.below hb2)
  have hB := bcall hb1 hb2
  rw [hs1] at Y0 Y1
  have HS2 := hide (show w2.heap.size = w.heap.size + 2 by omega)
  clear e1 e2 X hb1 hb2 hs1 hs2
  go_enter Tryd.func41, Tryd.ntmps41
  go_upto_region 2 with (fail)
  rw [HE1.out, HE2.out]
  go_wp2
  refine ⟨rfl, ⟨_, _, rfl⟩, ?_⟩
  have HS := HS2.out
  repeat (first | (with_reducible exact hB) | (with_reducible refine c_alloc ?_ (by omega) _) | (with_reducible refine below_drew ?_))
theorem opOf_any (x y : Sd) (w : World) : Calls Tryd.prog 41 #[sdV x, sdV y] w fun e w' => (match opF x y with | some q => e = .returned (qv q.kind q.r q.a q.s) | none => PanC e) ∧ Below w.heap.size w w' := by
  cases x with
  | reg r =>
    cases y with
    | reg q => exact opOf_reg_reg r q w
    | plc a s => exact opOf_reg_plc r a s w
    | fre => exact opOf_reg_fre r w
    | non => exact opOf_reg_non r w
    | bad => exact opOf_reg_bad r w
  | plc a s =>
    cases y with
    | reg r => exact opOf_plc_reg a s r w
    | plc x y => exact opOf_plc_plc a s x y w
    | fre => exact opOf_plc_fre a s w
    | non => exact opOf_plc_non a s w
    | bad => exact opOf_plc_bad a s w
  | fre => exact opOf_fre (sdV y) w
  | non => exact opOf_non (sdV y) w
  | bad => exact opOf_bad (sdV y) w
-- MORE
end Go.Proofs.YtffdgkofolomlaaDoor
