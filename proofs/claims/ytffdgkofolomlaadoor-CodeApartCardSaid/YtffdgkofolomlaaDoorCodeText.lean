/- Layer code: sides, the texts of pieces and of ops. -/
import Derived.Test.YtffdgkofolomlaaDoorCodeScal
import Derived.Test.YtffdgkofolomlaaDoorLays
import Derived.Test.YtffdgkofolomlaaDoorHeldImp
namespace Go.Proofs.YtffdgkofolomlaaDoor
open Go.RowKit Go.Shelf Go.Proofs Go.Joins

abbrev regV (r : Int) : Value := .iface 80 (.int .i64 r)
abbrev plcV (r s : Int) : Value := .iface 82 (.agg #[.int .i64 r, .int .i64 s])
abbrev freV : Value := .iface 84 (.agg #[])
abbrev nonV : Value := .iface 85 (.agg #[])
theorem b2_new (w : World) (x y : Value) (t : TypeId) : ∃ w1, w.alloc (.cells #[x, y] t) = w1 ∧ Below w.heap.size w w1 ∧ w1.heap.size = w.heap.size + 1 ∧ w1.cell? ⟨w.heap.size, 0, none⟩ = some x ∧ w1.cell? ⟨w.heap.size, 1, none⟩ = some y ∧ w1.frozen? ⟨w.heap.size, 0, none⟩ = false ∧ w1.frozen? ⟨w.heap.size, 1, none⟩ = false :=
  ⟨_, rfl, (Below.refl _ _).alloc (Nat.le_refl _) _, by simp, cell_of_block (heap_alloc_new w _) 0, cell_of_block (heap_alloc_new w _) 1, unfrozen_of_block (heap_alloc_new w _) 0, unfrozen_of_block (heap_alloc_new w _) 1⟩
theorem below_drew {n : Nat} {a b : World} (h : Below n a b) : Below n a b.drew := ⟨h.os, h.tape, h.output, h.size, h.block⟩
set_option maxRecDepth 100000 in
set_option maxHeartbeats 2000000 in
theorem sides_1 (r a s : Int) (w : World) : Calls Tryd.prog 37 #[qv 1 r a s] w fun e w' => e = .returned (.tuple #[regV r, plcV a s]) ∧ Below w.heap.size w w' := by
  obtain ⟨w1, e1, hb1, hs1, X⟩ := b4_new w (.int .i64 1) (.int .i64 r) (.int .i64 a) (.int .i64 s) 24
  have HE1 := hide e1
  obtain ⟨X0, X1, X2, X3⟩ := X.all
  clear e1 X
  go_enter Tryd.func37, Tryd.ntmps37
  go_upto_region 1 with (fail)
  rw [HE1.out]
  refine wp_region_held_drew (S := fun w' => w'.cell? ⟨w.heap.size, 0, none⟩ = some (.int .i64 1) ∧ w'.cell? ⟨w.heap.size, 1, none⟩ = some (.int .i64 r) ∧ w'.cell? ⟨w.heap.size, 2, none⟩ = some (.int .i64 a) ∧ w'.cell? ⟨w.heap.size, 3, none⟩ = some (.int .i64 s)) (by kernel_rfl) ?_ (fun hHeld => ?_)
  · exact (by first | exact ⟨X0, X1, X2, X3⟩ | exact ⟨ckeep (cbal _ _) X0, ckeep (cbal _ _) X1, ckeep (cbal _ _) X2, ckeep (cbal _ _) X3⟩ | exact ⟨ckeep (below_drew (cbal _ _)) X0, ckeep (below_drew (cbal _ _)) X1, ckeep (below_drew (cbal _ _)) X2, ckeep (below_drew (cbal _ _)) X3⟩)
  refine wpAnyH_take (i := 0) (oi := { dst := some 6, op := Op.fieldAddr 24 (Operand.tmp 1) 1, type := 0, pos := "piece.go:59", after := #[], guard := none }) (v := ?_) rfl (by kernel_rfl) (by kernel_rfl) (by kernel_rfl) (fun _ _ _ h => h) (Or.inl ⟨by rfl, ?_⟩) (by assumption) ?_
  rotate_left
  · intro w_ hSw; (try dsimp only at hSw); go_simp; (try with_reducible rfl)
  (try simp only [Act.put, List.setIfInBounds_toArray, List.set_cons_zero, List.set_cons_succ])
  refine wpAnyH_take (i := 1) (oi := { dst := some 7, op := Op.load 3 (Operand.tmp 6), type := 3, pos := "piece.go:59", after := #[{ on := 0, ground := Ground.data }], guard := none }) (v := ?_) rfl (by kernel_rfl) (by kernel_rfl) (by kernel_rfl) (fun _ _ _ h => h) (Or.inl ⟨by rfl, ?_⟩) (by assumption) ?_
  rotate_left
  · intro w_ hSw; (try dsimp only at hSw); go_simp; (try with_reducible rfl)
  (try simp only [Act.put, List.setIfInBounds_toArray, List.set_cons_zero, List.set_cons_succ])
  refine wpAnyH_take (i := 2) (oi := { dst := some 8, op := Op.fieldAddr 24 (Operand.tmp 1) 2, type := 0, pos := "piece.go:59", after := #[{ on := 8, ground := Ground.gcOnly Departure.lateStores }], guard := none }) (v := ?_) rfl (by kernel_rfl) (by kernel_rfl) (by kernel_rfl) (fun _ _ _ h => h) (Or.inl ⟨by rfl, ?_⟩) (by assumption) ?_
  rotate_left
  · intro w_ hSw; (try dsimp only at hSw); go_simp; (try with_reducible rfl)
  (try simp only [Act.put, List.setIfInBounds_toArray, List.set_cons_zero, List.set_cons_succ])
  refine wpAnyH_take (i := 3) (oi := { dst := some 9, op := Op.load 3 (Operand.tmp 8), type := 3, pos := "piece.go:59", after := #[{ on := 2, ground := Ground.data }, { on := 8, ground := Ground.gcOnly Departure.lateStores }], guard := none }) (v := ?_) rfl (by kernel_rfl) (by kernel_rfl) (by kernel_rfl) (fun _ _ _ h => h) (Or.inl ⟨by rfl, ?_⟩) (by assumption) ?_
  rotate_left
  · intro w_ hSw; (try dsimp only at hSw); go_simp; (try with_reducible rfl)
  (try simp only [Act.put, List.setIfInBounds_toArray, List.set_cons_zero, List.set_cons_succ])
  refine wpAnyH_take (i := 4) (oi := { dst := some 10, op := Op.fieldAddr 24 (Operand.tmp 1) 3, type := 0, pos := "piece.go:59", after := #[{ on := 8, ground := Ground.gcOnly Departure.lateStores }], guard := none }) (v := ?_) rfl (by kernel_rfl) (by kernel_rfl) (by kernel_rfl) (fun _ _ _ h => h) (Or.inl ⟨by rfl, ?_⟩) (by assumption) ?_
  rotate_left
  · intro w_ hSw; (try dsimp only at hSw); go_simp; (try with_reducible rfl)
  (try simp only [Act.put, List.setIfInBounds_toArray, List.set_cons_zero, List.set_cons_succ])
  refine wpAnyH_take (i := 5) (oi := { dst := some 11, op := Op.load 3 (Operand.tmp 10), type := 3, pos := "piece.go:59", after := #[{ on := 4, ground := Ground.data }, { on := 8, ground := Ground.gcOnly Departure.lateStores }], guard := none }) (v := ?_) rfl (by kernel_rfl) (by kernel_rfl) (by kernel_rfl) (fun _ _ _ h => h) (Or.inl ⟨by rfl, ?_⟩) (by assumption) ?_
  rotate_left
  · intro w_ hSw; (try dsimp only at hSw); go_simp; (try with_reducible rfl)
  (try simp only [Act.put, List.setIfInBounds_toArray, List.set_cons_zero, List.set_cons_succ])
  refine wpAnyH_take (i := 6) (oi := { dst := some 12, op := Op.build 82 #[(0, Operand.tmp 9), (1, Operand.tmp 11)], type := 82, pos := "piece.go:59", after := #[{ on := 3, ground := Ground.data }, { on := 5, ground := Ground.data }, { on := 8, ground := Ground.gcOnly Departure.lateStores }], guard := none }) (v := ?_) rfl (by kernel_rfl) (by kernel_rfl) (by kernel_rfl) (fun _ _ _ h => h) (Or.inl ⟨by rfl, ?_⟩) (by assumption) ?_
  rotate_left
  · intro w_ hSw; (try dsimp only at hSw); go_simp; (try with_reducible rfl)
  (try simp only [Act.put, List.setIfInBounds_toArray, List.set_cons_zero, List.set_cons_succ])
  refine wpAnyH_ready (rs := [7]) (by kernel_rfl) (by simp) ?_
  refine AllReadyH.cons rfl (fun K hK => ?_) AllReadyH.nil
  go_simp
  (try go_simp)
  refine hK.out _ _ (by first | exact ⟨X0, X1, X2, X3⟩ | exact ⟨ckeep (cbal _ _) X0, ckeep (cbal _ _) X1, ckeep (cbal _ _) X2, ckeep (cbal _ _) X3⟩ | exact ⟨ckeep (below_drew (cbal _ _)) X0, ckeep (below_drew (cbal _ _)) X1, ckeep (below_drew (cbal _ _)) X2, ckeep (below_drew (cbal _ _)) X3⟩) (fun hHeld => ?_)
  (try simp only [Act.put, List.setIfInBounds_toArray, List.set_cons_zero, List.set_cons_succ])
  refine wpAnyH_take (i := 8) (oi := { dst := some 4, op := Op.assign (Operand.tmp 7), type := 80, pos := "piece.go:59", after := #[{ on := 1, ground := Ground.data }, { on := 0, ground := Ground.phase }, { on := 1, ground := Ground.phase }, { on := 2, ground := Ground.textOnly Departure.lateStores }, { on := 3, ground := Ground.textOnly Departure.lateStores }, { on := 4, ground := Ground.textOnly Departure.lateStores }, { on := 5, ground := Ground.textOnly Departure.lateStores }, { on := 6, ground := Ground.textOnly Departure.lateStores }, { on := 7, ground := Ground.phase }], guard := none }) (v := ?_) rfl (by kernel_rfl) (by kernel_rfl) (by kernel_rfl) (fun _ _ _ h => h) (Or.inl ⟨by rfl, ?_⟩) (by assumption) ?_
  rotate_left
  · intro w_ hSw; (try dsimp only at hSw); go_simp; (try with_reducible rfl)
  (try simp only [Act.put, List.setIfInBounds_toArray, List.set_cons_zero, List.set_cons_succ])
  refine wpAnyH_ready (rs := [9]) (by kernel_rfl) (by simp) ?_
  refine AllReadyH.cons rfl (fun K hK => ?_) AllReadyH.nil
  go_simp
  (try go_simp)
  refine hK.out _ _ (by first | exact ⟨X0, X1, X2, X3⟩ | exact ⟨ckeep (cbal _ _) X0, ckeep (cbal _ _) X1, ckeep (cbal _ _) X2, ckeep (cbal _ _) X3⟩ | exact ⟨ckeep (below_drew (cbal _ _)) X0, ckeep (below_drew (cbal _ _)) X1, ckeep (below_drew (cbal _ _)) X2, ckeep (below_drew (cbal _ _)) X3⟩) (fun hHeld => ?_)
  (try simp only [Act.put, List.setIfInBounds_toArray, List.set_cons_zero, List.set_cons_succ])
  refine wpAnyH_done (by kernel_rfl) ?_ _
  obtain ⟨w2, e2, hb2, hs2, Y0, Y1, -, -⟩ := b2_new w1 (.int .i64 a) (.int .i64 s) 82
  obtain ⟨w3, e3⟩ : ∃ w3, w2.drew = w3 := ⟨_, rfl⟩
  have HB := hide (bcall hb1 (show Below w1.heap.size w1 w3 by rw [← e3]; exact below_drew hb2))
  rw [hs1] at Y0 Y1
  have K0 : w3.cell? ⟨w.heap.size, 0, none⟩ = some (.int .i64 1) := by rw [← e3]; exact (show w2.cell? _ = _ from ckeep hb2 X0)
  have Z0 : w3.cell? ⟨w.heap.size + 1, 0, none⟩ = some (.int .i64 a) := by rw [← e3]; exact (show w2.cell? _ = _ from Y0)
  have Z1 : w3.cell? ⟨w.heap.size + 1, 1, none⟩ = some (.int .i64 s) := by rw [← e3]; exact (show w2.cell? _ = _ from Y1)
  rw [e2, e3]
  clear X0 X1 X2 X3 Y0 Y1 hHeld hs1 hs2 hb1 hb2 e2 e3
  go_wp2
  refine wp_region_held_drew (S := fun w' => w'.cell? ⟨w.heap.size + 1, 0, none⟩ = some (.int .i64 a) ∧ w'.cell? ⟨w.heap.size + 1, 1, none⟩ = some (.int .i64 s)) (by kernel_rfl) ?_ (fun hHeld => ?_)
  · exact ⟨Z0, Z1⟩
  refine wpAnyH_take (i := 0) (oi := { dst := some 17, op := Op.move (Operand.tmp 4), type := 80, pos := "piece.go:62", after := #[], guard := none }) (v := ?_) rfl (by kernel_rfl) (by kernel_rfl) (by kernel_rfl) (fun _ _ _ h => h) (Or.inl ⟨by rfl, ?_⟩) (by assumption) ?_
  rotate_left
  · intro w_ hSw; (try dsimp only at hSw); go_simp; (try with_reducible rfl)
  (try simp only [Act.put, List.setIfInBounds_toArray, List.set_cons_zero, List.set_cons_succ])
  refine wpAnyH_take (i := 1) (oi := { dst := some 18, op := Op.makeInterface 80 (Operand.tmp 17), type := 71, pos := "piece.go:62", after := #[{ on := 0, ground := Ground.data }], guard := none }) (v := ?_) rfl (by kernel_rfl) (by kernel_rfl) (by kernel_rfl) (fun _ _ _ h => h) (Or.inl ⟨by rfl, ?_⟩) (by assumption) ?_
  rotate_left
  · intro w_ hSw; (try dsimp only at hSw); go_simp; (try with_reducible rfl)
  (try simp only [Act.put, List.setIfInBounds_toArray, List.set_cons_zero, List.set_cons_succ])
  refine wpAnyH_take (i := 2) (oi := { dst := some 19, op := Op.load 82 (Operand.tmp 5), type := 82, pos := "piece.go:62", after := #[], guard := none }) (v := ?_) rfl (by kernel_rfl) (by kernel_rfl) (by kernel_rfl) (fun _ _ _ h => h) (Or.inl ⟨by rfl, ?_⟩) (by assumption) ?_
  rotate_left
  · intro w_ hSw; (try dsimp only at hSw); go_simp; (try with_reducible rfl)
  (try simp only [Act.put, List.setIfInBounds_toArray, List.set_cons_zero, List.set_cons_succ])
  refine wpAnyH_take (i := 3) (oi := { dst := some 20, op := Op.makeInterface 82 (Operand.tmp 19), type := 71, pos := "piece.go:62", after := #[{ on := 2, ground := Ground.data }, { on := 4, ground := Ground.gcOnly Departure.lateStores }], guard := none }) (v := ?_) rfl (by kernel_rfl) (by kernel_rfl) (by kernel_rfl) (fun _ _ _ h => h) (Or.inl ⟨by rfl, ?_⟩) (by assumption) ?_
  rotate_left
  · intro w_ hSw; (try dsimp only at hSw); go_simp; (try with_reducible rfl)
  (try simp only [Act.put, List.setIfInBounds_toArray, List.set_cons_zero, List.set_cons_succ])
  refine wpAnyH_take (i := 4) (oi := { dst := some 2, op := Op.assign (Operand.tmp 18), type := 71, pos := "piece.go:62", after := #[{ on := 1, ground := Ground.data }, { on := 0, ground := Ground.phase }, { on := 1, ground := Ground.phase }, { on := 2, ground := Ground.textOnly Departure.lateStores }, { on := 3, ground := Ground.textOnly Departure.lateStores }], guard := none }) (v := ?_) rfl (by kernel_rfl) (by kernel_rfl) (by kernel_rfl) (fun _ _ _ h => h) (Or.inl ⟨by rfl, ?_⟩) (by assumption) ?_
  rotate_left
  · intro w_ hSw; (try dsimp only at hSw); go_simp; (try with_reducible rfl)
  (try simp only [Act.put, List.setIfInBounds_toArray, List.set_cons_zero, List.set_cons_succ])
  refine wpAnyH_take (i := 5) (oi := { dst := some 3, op := Op.assign (Operand.tmp 20), type := 71, pos := "piece.go:62", after := #[{ on := 3, ground := Ground.data }, { on := 4, ground := Ground.chain }, { on := 0, ground := Ground.phase }, { on := 1, ground := Ground.phase }, { on := 2, ground := Ground.phase }, { on := 3, ground := Ground.phase }, { on := 4, ground := Ground.phase }], guard := none }) (v := ?_) rfl (by kernel_rfl) (by kernel_rfl) (by kernel_rfl) (fun _ _ _ h => h) (Or.inl ⟨by rfl, ?_⟩) (by assumption) ?_
  rotate_left
  · intro w_ hSw; (try dsimp only at hSw); go_simp; (try with_reducible rfl)
  (try simp only [Act.put, List.setIfInBounds_toArray, List.set_cons_zero, List.set_cons_succ])
  refine wpAnyH_done (by kernel_rfl) ?_ _
  go_wp2
  go_ret2
  exact ⟨rfl, below_drew HB.out⟩
set_option maxRecDepth 100000 in
set_option maxHeartbeats 2000000 in
theorem sides_2 (r a s : Int) (w : World) : Calls Tryd.prog 37 #[qv 2 r a s] w fun e w' => e = .returned (.tuple #[plcV a s, regV r]) ∧ Below w.heap.size w w' := by
  obtain ⟨w1, e1, hb1, hs1, X⟩ := b4_new w (.int .i64 2) (.int .i64 r) (.int .i64 a) (.int .i64 s) 24
  have HE1 := hide e1
  obtain ⟨X0, X1, X2, X3⟩ := X.all
  clear e1 X
  go_enter Tryd.func37, Tryd.ntmps37
  go_upto_region 1 with (fail)
  rw [HE1.out]
  refine wp_region_held_drew (S := fun w' => w'.cell? ⟨w.heap.size, 0, none⟩ = some (.int .i64 2) ∧ w'.cell? ⟨w.heap.size, 1, none⟩ = some (.int .i64 r) ∧ w'.cell? ⟨w.heap.size, 2, none⟩ = some (.int .i64 a) ∧ w'.cell? ⟨w.heap.size, 3, none⟩ = some (.int .i64 s)) (by kernel_rfl) ?_ (fun hHeld => ?_)
  · exact (by first | exact ⟨X0, X1, X2, X3⟩ | exact ⟨ckeep (cbal _ _) X0, ckeep (cbal _ _) X1, ckeep (cbal _ _) X2, ckeep (cbal _ _) X3⟩ | exact ⟨ckeep (below_drew (cbal _ _)) X0, ckeep (below_drew (cbal _ _)) X1, ckeep (below_drew (cbal _ _)) X2, ckeep (below_drew (cbal _ _)) X3⟩)
  refine wpAnyH_take (i := 0) (oi := { dst := some 6, op := Op.fieldAddr 24 (Operand.tmp 1) 1, type := 0, pos := "piece.go:59", after := #[], guard := none }) (v := ?_) rfl (by kernel_rfl) (by kernel_rfl) (by kernel_rfl) (fun _ _ _ h => h) (Or.inl ⟨by rfl, ?_⟩) (by assumption) ?_
  rotate_left
  · intro w_ hSw; (try dsimp only at hSw); go_simp; (try with_reducible rfl)
  (try simp only [Act.put, List.setIfInBounds_toArray, List.set_cons_zero, List.set_cons_succ])
  refine wpAnyH_take (i := 1) (oi := { dst := some 7, op := Op.load 3 (Operand.tmp 6), type := 3, pos := "piece.go:59", after := #[{ on := 0, ground := Ground.data }], guard := none }) (v := ?_) rfl (by kernel_rfl) (by kernel_rfl) (by kernel_rfl) (fun _ _ _ h => h) (Or.inl ⟨by rfl, ?_⟩) (by assumption) ?_
  rotate_left
  · intro w_ hSw; (try dsimp only at hSw); go_simp; (try with_reducible rfl)
  (try simp only [Act.put, List.setIfInBounds_toArray, List.set_cons_zero, List.set_cons_succ])
  refine wpAnyH_take (i := 2) (oi := { dst := some 8, op := Op.fieldAddr 24 (Operand.tmp 1) 2, type := 0, pos := "piece.go:59", after := #[{ on := 8, ground := Ground.gcOnly Departure.lateStores }], guard := none }) (v := ?_) rfl (by kernel_rfl) (by kernel_rfl) (by kernel_rfl) (fun _ _ _ h => h) (Or.inl ⟨by rfl, ?_⟩) (by assumption) ?_
  rotate_left
  · intro w_ hSw; (try dsimp only at hSw); go_simp; (try with_reducible rfl)
  (try simp only [Act.put, List.setIfInBounds_toArray, List.set_cons_zero, List.set_cons_succ])
  refine wpAnyH_take (i := 3) (oi := { dst := some 9, op := Op.load 3 (Operand.tmp 8), type := 3, pos := "piece.go:59", after := #[{ on := 2, ground := Ground.data }, { on := 8, ground := Ground.gcOnly Departure.lateStores }], guard := none }) (v := ?_) rfl (by kernel_rfl) (by kernel_rfl) (by kernel_rfl) (fun _ _ _ h => h) (Or.inl ⟨by rfl, ?_⟩) (by assumption) ?_
  rotate_left
  · intro w_ hSw; (try dsimp only at hSw); go_simp; (try with_reducible rfl)
  (try simp only [Act.put, List.setIfInBounds_toArray, List.set_cons_zero, List.set_cons_succ])
  refine wpAnyH_take (i := 4) (oi := { dst := some 10, op := Op.fieldAddr 24 (Operand.tmp 1) 3, type := 0, pos := "piece.go:59", after := #[{ on := 8, ground := Ground.gcOnly Departure.lateStores }], guard := none }) (v := ?_) rfl (by kernel_rfl) (by kernel_rfl) (by kernel_rfl) (fun _ _ _ h => h) (Or.inl ⟨by rfl, ?_⟩) (by assumption) ?_
  rotate_left
  · intro w_ hSw; (try dsimp only at hSw); go_simp; (try with_reducible rfl)
  (try simp only [Act.put, List.setIfInBounds_toArray, List.set_cons_zero, List.set_cons_succ])
  refine wpAnyH_take (i := 5) (oi := { dst := some 11, op := Op.load 3 (Operand.tmp 10), type := 3, pos := "piece.go:59", after := #[{ on := 4, ground := Ground.data }, { on := 8, ground := Ground.gcOnly Departure.lateStores }], guard := none }) (v := ?_) rfl (by kernel_rfl) (by kernel_rfl) (by kernel_rfl) (fun _ _ _ h => h) (Or.inl ⟨by rfl, ?_⟩) (by assumption) ?_
  rotate_left
  · intro w_ hSw; (try dsimp only at hSw); go_simp; (try with_reducible rfl)
  (try simp only [Act.put, List.setIfInBounds_toArray, List.set_cons_zero, List.set_cons_succ])
  refine wpAnyH_take (i := 6) (oi := { dst := some 12, op := Op.build 82 #[(0, Operand.tmp 9), (1, Operand.tmp 11)], type := 82, pos := "piece.go:59", after := #[{ on := 3, ground := Ground.data }, { on := 5, ground := Ground.data }, { on := 8, ground := Ground.gcOnly Departure.lateStores }], guard := none }) (v := ?_) rfl (by kernel_rfl) (by kernel_rfl) (by kernel_rfl) (fun _ _ _ h => h) (Or.inl ⟨by rfl, ?_⟩) (by assumption) ?_
  rotate_left
  · intro w_ hSw; (try dsimp only at hSw); go_simp; (try with_reducible rfl)
  (try simp only [Act.put, List.setIfInBounds_toArray, List.set_cons_zero, List.set_cons_succ])
  refine wpAnyH_ready (rs := [7]) (by kernel_rfl) (by simp) ?_
  refine AllReadyH.cons rfl (fun K hK => ?_) AllReadyH.nil
  go_simp
  (try go_simp)
  refine hK.out _ _ (by first | exact ⟨X0, X1, X2, X3⟩ | exact ⟨ckeep (cbal _ _) X0, ckeep (cbal _ _) X1, ckeep (cbal _ _) X2, ckeep (cbal _ _) X3⟩ | exact ⟨ckeep (below_drew (cbal _ _)) X0, ckeep (below_drew (cbal _ _)) X1, ckeep (below_drew (cbal _ _)) X2, ckeep (below_drew (cbal _ _)) X3⟩) (fun hHeld => ?_)
  (try simp only [Act.put, List.setIfInBounds_toArray, List.set_cons_zero, List.set_cons_succ])
  refine wpAnyH_take (i := 8) (oi := { dst := some 4, op := Op.assign (Operand.tmp 7), type := 80, pos := "piece.go:59", after := #[{ on := 1, ground := Ground.data }, { on := 0, ground := Ground.phase }, { on := 1, ground := Ground.phase }, { on := 2, ground := Ground.textOnly Departure.lateStores }, { on := 3, ground := Ground.textOnly Departure.lateStores }, { on := 4, ground := Ground.textOnly Departure.lateStores }, { on := 5, ground := Ground.textOnly Departure.lateStores }, { on := 6, ground := Ground.textOnly Departure.lateStores }, { on := 7, ground := Ground.phase }], guard := none }) (v := ?_) rfl (by kernel_rfl) (by kernel_rfl) (by kernel_rfl) (fun _ _ _ h => h) (Or.inl ⟨by rfl, ?_⟩) (by assumption) ?_
  rotate_left
  · intro w_ hSw; (try dsimp only at hSw); go_simp; (try with_reducible rfl)
  (try simp only [Act.put, List.setIfInBounds_toArray, List.set_cons_zero, List.set_cons_succ])
  refine wpAnyH_ready (rs := [9]) (by kernel_rfl) (by simp) ?_
  refine AllReadyH.cons rfl (fun K hK => ?_) AllReadyH.nil
  go_simp
  (try go_simp)
  refine hK.out _ _ (by first | exact ⟨X0, X1, X2, X3⟩ | exact ⟨ckeep (cbal _ _) X0, ckeep (cbal _ _) X1, ckeep (cbal _ _) X2, ckeep (cbal _ _) X3⟩ | exact ⟨ckeep (below_drew (cbal _ _)) X0, ckeep (below_drew (cbal _ _)) X1, ckeep (below_drew (cbal _ _)) X2, ckeep (below_drew (cbal _ _)) X3⟩) (fun hHeld => ?_)
  (try simp only [Act.put, List.setIfInBounds_toArray, List.set_cons_zero, List.set_cons_succ])
  refine wpAnyH_done (by kernel_rfl) ?_ _
  obtain ⟨w2, e2, hb2, hs2, Y0, Y1, -, -⟩ := b2_new w1 (.int .i64 a) (.int .i64 s) 82
  obtain ⟨w3, e3⟩ : ∃ w3, w2.drew = w3 := ⟨_, rfl⟩
  have HB := hide (bcall hb1 (show Below w1.heap.size w1 w3 by rw [← e3]; exact below_drew hb2))
  rw [hs1] at Y0 Y1
  have K0 : w3.cell? ⟨w.heap.size, 0, none⟩ = some (.int .i64 2) := by rw [← e3]; exact (show w2.cell? _ = _ from ckeep hb2 X0)
  have Z0 : w3.cell? ⟨w.heap.size + 1, 0, none⟩ = some (.int .i64 a) := by rw [← e3]; exact (show w2.cell? _ = _ from Y0)
  have Z1 : w3.cell? ⟨w.heap.size + 1, 1, none⟩ = some (.int .i64 s) := by rw [← e3]; exact (show w2.cell? _ = _ from Y1)
  rw [e2, e3]
  clear X0 X1 X2 X3 Y0 Y1 hHeld hs1 hs2 hb1 hb2 e2 e3
  go_wp2
  go_ret2
  exact ⟨rfl, HB.out⟩
set_option maxRecDepth 100000 in
set_option maxHeartbeats 2000000 in
theorem sides_3 (r a s : Int) (w : World) : Calls Tryd.prog 37 #[qv 3 r a s] w fun e w' => e = .returned (.tuple #[regV r, freV]) ∧ Below w.heap.size w w' := by
  obtain ⟨w1, e1, hb1, hs1, X⟩ := b4_new w (.int .i64 3) (.int .i64 r) (.int .i64 a) (.int .i64 s) 24
  have HE1 := hide e1
  obtain ⟨X0, X1, X2, X3⟩ := X.all
  clear e1 X
  go_enter Tryd.func37, Tryd.ntmps37
  go_upto_region 1 with (fail)
  rw [HE1.out]
  refine wp_region_held_drew (S := fun w' => w'.cell? ⟨w.heap.size, 0, none⟩ = some (.int .i64 3) ∧ w'.cell? ⟨w.heap.size, 1, none⟩ = some (.int .i64 r) ∧ w'.cell? ⟨w.heap.size, 2, none⟩ = some (.int .i64 a) ∧ w'.cell? ⟨w.heap.size, 3, none⟩ = some (.int .i64 s)) (by kernel_rfl) ?_ (fun hHeld => ?_)
  · exact (by first | exact ⟨X0, X1, X2, X3⟩ | exact ⟨ckeep (cbal _ _) X0, ckeep (cbal _ _) X1, ckeep (cbal _ _) X2, ckeep (cbal _ _) X3⟩ | exact ⟨ckeep (below_drew (cbal _ _)) X0, ckeep (below_drew (cbal _ _)) X1, ckeep (below_drew (cbal _ _)) X2, ckeep (below_drew (cbal _ _)) X3⟩)
  refine wpAnyH_take (i := 0) (oi := { dst := some 6, op := Op.fieldAddr 24 (Operand.tmp 1) 1, type := 0, pos := "piece.go:59", after := #[], guard := none }) (v := ?_) rfl (by kernel_rfl) (by kernel_rfl) (by kernel_rfl) (fun _ _ _ h => h) (Or.inl ⟨by rfl, ?_⟩) (by assumption) ?_
  rotate_left
  · intro w_ hSw; (try dsimp only at hSw); go_simp; (try with_reducible rfl)
  (try simp only [Act.put, List.setIfInBounds_toArray, List.set_cons_zero, List.set_cons_succ])
  refine wpAnyH_take (i := 1) (oi := { dst := some 7, op := Op.load 3 (Operand.tmp 6), type := 3, pos := "piece.go:59", after := #[{ on := 0, ground := Ground.data }], guard := none }) (v := ?_) rfl (by kernel_rfl) (by kernel_rfl) (by kernel_rfl) (fun _ _ _ h => h) (Or.inl ⟨by rfl, ?_⟩) (by assumption) ?_
  rotate_left
  · intro w_ hSw; (try dsimp only at hSw); go_simp; (try with_reducible rfl)
  (try simp only [Act.put, List.setIfInBounds_toArray, List.set_cons_zero, List.set_cons_succ])
  refine wpAnyH_take (i := 2) (oi := { dst := some 8, op := Op.fieldAddr 24 (Operand.tmp 1) 2, type := 0, pos := "piece.go:59", after := #[{ on := 8, ground := Ground.gcOnly Departure.lateStores }], guard := none }) (v := ?_) rfl (by kernel_rfl) (by kernel_rfl) (by kernel_rfl) (fun _ _ _ h => h) (Or.inl ⟨by rfl, ?_⟩) (by assumption) ?_
  rotate_left
  · intro w_ hSw; (try dsimp only at hSw); go_simp; (try with_reducible rfl)
  (try simp only [Act.put, List.setIfInBounds_toArray, List.set_cons_zero, List.set_cons_succ])
  refine wpAnyH_take (i := 3) (oi := { dst := some 9, op := Op.load 3 (Operand.tmp 8), type := 3, pos := "piece.go:59", after := #[{ on := 2, ground := Ground.data }, { on := 8, ground := Ground.gcOnly Departure.lateStores }], guard := none }) (v := ?_) rfl (by kernel_rfl) (by kernel_rfl) (by kernel_rfl) (fun _ _ _ h => h) (Or.inl ⟨by rfl, ?_⟩) (by assumption) ?_
  rotate_left
  · intro w_ hSw; (try dsimp only at hSw); go_simp; (try with_reducible rfl)
  (try simp only [Act.put, List.setIfInBounds_toArray, List.set_cons_zero, List.set_cons_succ])
  refine wpAnyH_take (i := 4) (oi := { dst := some 10, op := Op.fieldAddr 24 (Operand.tmp 1) 3, type := 0, pos := "piece.go:59", after := #[{ on := 8, ground := Ground.gcOnly Departure.lateStores }], guard := none }) (v := ?_) rfl (by kernel_rfl) (by kernel_rfl) (by kernel_rfl) (fun _ _ _ h => h) (Or.inl ⟨by rfl, ?_⟩) (by assumption) ?_
  rotate_left
  · intro w_ hSw; (try dsimp only at hSw); go_simp; (try with_reducible rfl)
  (try simp only [Act.put, List.setIfInBounds_toArray, List.set_cons_zero, List.set_cons_succ])
  refine wpAnyH_take (i := 5) (oi := { dst := some 11, op := Op.load 3 (Operand.tmp 10), type := 3, pos := "piece.go:59", after := #[{ on := 4, ground := Ground.data }, { on := 8, ground := Ground.gcOnly Departure.lateStores }], guard := none }) (v := ?_) rfl (by kernel_rfl) (by kernel_rfl) (by kernel_rfl) (fun _ _ _ h => h) (Or.inl ⟨by rfl, ?_⟩) (by assumption) ?_
  rotate_left
  · intro w_ hSw; (try dsimp only at hSw); go_simp; (try with_reducible rfl)
  (try simp only [Act.put, List.setIfInBounds_toArray, List.set_cons_zero, List.set_cons_succ])
  refine wpAnyH_take (i := 6) (oi := { dst := some 12, op := Op.build 82 #[(0, Operand.tmp 9), (1, Operand.tmp 11)], type := 82, pos := "piece.go:59", after := #[{ on := 3, ground := Ground.data }, { on := 5, ground := Ground.data }, { on := 8, ground := Ground.gcOnly Departure.lateStores }], guard := none }) (v := ?_) rfl (by kernel_rfl) (by kernel_rfl) (by kernel_rfl) (fun _ _ _ h => h) (Or.inl ⟨by rfl, ?_⟩) (by assumption) ?_
  rotate_left
  · intro w_ hSw; (try dsimp only at hSw); go_simp; (try with_reducible rfl)
  (try simp only [Act.put, List.setIfInBounds_toArray, List.set_cons_zero, List.set_cons_succ])
  refine wpAnyH_ready (rs := [7]) (by kernel_rfl) (by simp) ?_
  refine AllReadyH.cons rfl (fun K hK => ?_) AllReadyH.nil
  go_simp
  (try go_simp)
  refine hK.out _ _ (by first | exact ⟨X0, X1, X2, X3⟩ | exact ⟨ckeep (cbal _ _) X0, ckeep (cbal _ _) X1, ckeep (cbal _ _) X2, ckeep (cbal _ _) X3⟩ | exact ⟨ckeep (below_drew (cbal _ _)) X0, ckeep (below_drew (cbal _ _)) X1, ckeep (below_drew (cbal _ _)) X2, ckeep (below_drew (cbal _ _)) X3⟩) (fun hHeld => ?_)
  (try simp only [Act.put, List.setIfInBounds_toArray, List.set_cons_zero, List.set_cons_succ])
  refine wpAnyH_take (i := 8) (oi := { dst := some 4, op := Op.assign (Operand.tmp 7), type := 80, pos := "piece.go:59", after := #[{ on := 1, ground := Ground.data }, { on := 0, ground := Ground.phase }, { on := 1, ground := Ground.phase }, { on := 2, ground := Ground.textOnly Departure.lateStores }, { on := 3, ground := Ground.textOnly Departure.lateStores }, { on := 4, ground := Ground.textOnly Departure.lateStores }, { on := 5, ground := Ground.textOnly Departure.lateStores }, { on := 6, ground := Ground.textOnly Departure.lateStores }, { on := 7, ground := Ground.phase }], guard := none }) (v := ?_) rfl (by kernel_rfl) (by kernel_rfl) (by kernel_rfl) (fun _ _ _ h => h) (Or.inl ⟨by rfl, ?_⟩) (by assumption) ?_
  rotate_left
  · intro w_ hSw; (try dsimp only at hSw); go_simp; (try with_reducible rfl)
  (try simp only [Act.put, List.setIfInBounds_toArray, List.set_cons_zero, List.set_cons_succ])
  refine wpAnyH_ready (rs := [9]) (by kernel_rfl) (by simp) ?_
  refine AllReadyH.cons rfl (fun K hK => ?_) AllReadyH.nil
  go_simp
  (try go_simp)
  refine hK.out _ _ (by first | exact ⟨X0, X1, X2, X3⟩ | exact ⟨ckeep (cbal _ _) X0, ckeep (cbal _ _) X1, ckeep (cbal _ _) X2, ckeep (cbal _ _) X3⟩ | exact ⟨ckeep (below_drew (cbal _ _)) X0, ckeep (below_drew (cbal _ _)) X1, ckeep (below_drew (cbal _ _)) X2, ckeep (below_drew (cbal _ _)) X3⟩) (fun hHeld => ?_)
  (try simp only [Act.put, List.setIfInBounds_toArray, List.set_cons_zero, List.set_cons_succ])
  refine wpAnyH_done (by kernel_rfl) ?_ _
  obtain ⟨w2, e2, hb2, hs2, Y0, Y1, -, -⟩ := b2_new w1 (.int .i64 a) (.int .i64 s) 82
  obtain ⟨w3, e3⟩ : ∃ w3, w2.drew = w3 := ⟨_, rfl⟩
  have HB := hide (bcall hb1 (show Below w1.heap.size w1 w3 by rw [← e3]; exact below_drew hb2))
  rw [hs1] at Y0 Y1
  have K0 : w3.cell? ⟨w.heap.size, 0, none⟩ = some (.int .i64 3) := by rw [← e3]; exact (show w2.cell? _ = _ from ckeep hb2 X0)
  have Z0 : w3.cell? ⟨w.heap.size + 1, 0, none⟩ = some (.int .i64 a) := by rw [← e3]; exact (show w2.cell? _ = _ from Y0)
  have Z1 : w3.cell? ⟨w.heap.size + 1, 1, none⟩ = some (.int .i64 s) := by rw [← e3]; exact (show w2.cell? _ = _ from Y1)
  rw [e2, e3]
  clear X0 X1 X2 X3 Y0 Y1 hHeld hs1 hs2 hb1 hb2 e2 e3
  go_wp2
  go_ret2
  exact ⟨rfl, HB.out⟩
set_option maxRecDepth 100000 in
set_option maxHeartbeats 2000000 in
theorem sides_4 (r a s : Int) (w : World) : Calls Tryd.prog 37 #[qv 4 r a s] w fun e w' => e = .returned (.tuple #[regV r, regV a]) ∧ Below w.heap.size w w' := by
  obtain ⟨w1, e1, hb1, hs1, X⟩ := b4_new w (.int .i64 4) (.int .i64 r) (.int .i64 a) (.int .i64 s) 24
  have HE1 := hide e1
  obtain ⟨X0, X1, X2, X3⟩ := X.all
  clear e1 X
  go_enter Tryd.func37, Tryd.ntmps37
  go_upto_region 1 with (fail)
  rw [HE1.out]
  refine wp_region_held_drew (S := fun w' => w'.cell? ⟨w.heap.size, 0, none⟩ = some (.int .i64 4) ∧ w'.cell? ⟨w.heap.size, 1, none⟩ = some (.int .i64 r) ∧ w'.cell? ⟨w.heap.size, 2, none⟩ = some (.int .i64 a) ∧ w'.cell? ⟨w.heap.size, 3, none⟩ = some (.int .i64 s)) (by kernel_rfl) ?_ (fun hHeld => ?_)
  · exact (by first | exact ⟨X0, X1, X2, X3⟩ | exact ⟨ckeep (cbal _ _) X0, ckeep (cbal _ _) X1, ckeep (cbal _ _) X2, ckeep (cbal _ _) X3⟩ | exact ⟨ckeep (below_drew (cbal _ _)) X0, ckeep (below_drew (cbal _ _)) X1, ckeep (below_drew (cbal _ _)) X2, ckeep (below_drew (cbal _ _)) X3⟩)
  refine wpAnyH_take (i := 0) (oi := { dst := some 6, op := Op.fieldAddr 24 (Operand.tmp 1) 1, type := 0, pos := "piece.go:59", after := #[], guard := none }) (v := ?_) rfl (by kernel_rfl) (by kernel_rfl) (by kernel_rfl) (fun _ _ _ h => h) (Or.inl ⟨by rfl, ?_⟩) (by assumption) ?_
  rotate_left
  · intro w_ hSw; (try dsimp only at hSw); go_simp; (try with_reducible rfl)
  (try simp only [Act.put, List.setIfInBounds_toArray, List.set_cons_zero, List.set_cons_succ])
  refine wpAnyH_take (i := 1) (oi := { dst := some 7, op := Op.load 3 (Operand.tmp 6), type := 3, pos := "piece.go:59", after := #[{ on := 0, ground := Ground.data }], guard := none }) (v := ?_) rfl (by kernel_rfl) (by kernel_rfl) (by kernel_rfl) (fun _ _ _ h => h) (Or.inl ⟨by rfl, ?_⟩) (by assumption) ?_
  rotate_left
  · intro w_ hSw; (try dsimp only at hSw); go_simp; (try with_reducible rfl)
  (try simp only [Act.put, List.setIfInBounds_toArray, List.set_cons_zero, List.set_cons_succ])
  refine wpAnyH_take (i := 2) (oi := { dst := some 8, op := Op.fieldAddr 24 (Operand.tmp 1) 2, type := 0, pos := "piece.go:59", after := #[{ on := 8, ground := Ground.gcOnly Departure.lateStores }], guard := none }) (v := ?_) rfl (by kernel_rfl) (by kernel_rfl) (by kernel_rfl) (fun _ _ _ h => h) (Or.inl ⟨by rfl, ?_⟩) (by assumption) ?_
  rotate_left
  · intro w_ hSw; (try dsimp only at hSw); go_simp; (try with_reducible rfl)
  (try simp only [Act.put, List.setIfInBounds_toArray, List.set_cons_zero, List.set_cons_succ])
  refine wpAnyH_take (i := 3) (oi := { dst := some 9, op := Op.load 3 (Operand.tmp 8), type := 3, pos := "piece.go:59", after := #[{ on := 2, ground := Ground.data }, { on := 8, ground := Ground.gcOnly Departure.lateStores }], guard := none }) (v := ?_) rfl (by kernel_rfl) (by kernel_rfl) (by kernel_rfl) (fun _ _ _ h => h) (Or.inl ⟨by rfl, ?_⟩) (by assumption) ?_
  rotate_left
  · intro w_ hSw; (try dsimp only at hSw); go_simp; (try with_reducible rfl)
  (try simp only [Act.put, List.setIfInBounds_toArray, List.set_cons_zero, List.set_cons_succ])
  refine wpAnyH_take (i := 4) (oi := { dst := some 10, op := Op.fieldAddr 24 (Operand.tmp 1) 3, type := 0, pos := "piece.go:59", after := #[{ on := 8, ground := Ground.gcOnly Departure.lateStores }], guard := none }) (v := ?_) rfl (by kernel_rfl) (by kernel_rfl) (by kernel_rfl) (fun _ _ _ h => h) (Or.inl ⟨by rfl, ?_⟩) (by assumption) ?_
  rotate_left
  · intro w_ hSw; (try dsimp only at hSw); go_simp; (try with_reducible rfl)
  (try simp only [Act.put, List.setIfInBounds_toArray, List.set_cons_zero, List.set_cons_succ])
  refine wpAnyH_take (i := 5) (oi := { dst := some 11, op := Op.load 3 (Operand.tmp 10), type := 3, pos := "piece.go:59", after := #[{ on := 4, ground := Ground.data }, { on := 8, ground := Ground.gcOnly Departure.lateStores }], guard := none }) (v := ?_) rfl (by kernel_rfl) (by kernel_rfl) (by kernel_rfl) (fun _ _ _ h => h) (Or.inl ⟨by rfl, ?_⟩) (by assumption) ?_
  rotate_left
  · intro w_ hSw; (try dsimp only at hSw); go_simp; (try with_reducible rfl)
  (try simp only [Act.put, List.setIfInBounds_toArray, List.set_cons_zero, List.set_cons_succ])
  refine wpAnyH_take (i := 6) (oi := { dst := some 12, op := Op.build 82 #[(0, Operand.tmp 9), (1, Operand.tmp 11)], type := 82, pos := "piece.go:59", after := #[{ on := 3, ground := Ground.data }, { on := 5, ground := Ground.data }, { on := 8, ground := Ground.gcOnly Departure.lateStores }], guard := none }) (v := ?_) rfl (by kernel_rfl) (by kernel_rfl) (by kernel_rfl) (fun _ _ _ h => h) (Or.inl ⟨by rfl, ?_⟩) (by assumption) ?_
  rotate_left
  · intro w_ hSw; (try dsimp only at hSw); go_simp; (try with_reducible rfl)
  (try simp only [Act.put, List.setIfInBounds_toArray, List.set_cons_zero, List.set_cons_succ])
  refine wpAnyH_ready (rs := [7]) (by kernel_rfl) (by simp) ?_
  refine AllReadyH.cons rfl (fun K hK => ?_) AllReadyH.nil
  go_simp
  (try go_simp)
  refine hK.out _ _ (by first | exact ⟨X0, X1, X2, X3⟩ | exact ⟨ckeep (cbal _ _) X0, ckeep (cbal _ _) X1, ckeep (cbal _ _) X2, ckeep (cbal _ _) X3⟩ | exact ⟨ckeep (below_drew (cbal _ _)) X0, ckeep (below_drew (cbal _ _)) X1, ckeep (below_drew (cbal _ _)) X2, ckeep (below_drew (cbal _ _)) X3⟩) (fun hHeld => ?_)
  (try simp only [Act.put, List.setIfInBounds_toArray, List.set_cons_zero, List.set_cons_succ])
  refine wpAnyH_take (i := 8) (oi := { dst := some 4, op := Op.assign (Operand.tmp 7), type := 80, pos := "piece.go:59", after := #[{ on := 1, ground := Ground.data }, { on := 0, ground := Ground.phase }, { on := 1, ground := Ground.phase }, { on := 2, ground := Ground.textOnly Departure.lateStores }, { on := 3, ground := Ground.textOnly Departure.lateStores }, { on := 4, ground := Ground.textOnly Departure.lateStores }, { on := 5, ground := Ground.textOnly Departure.lateStores }, { on := 6, ground := Ground.textOnly Departure.lateStores }, { on := 7, ground := Ground.phase }], guard := none }) (v := ?_) rfl (by kernel_rfl) (by kernel_rfl) (by kernel_rfl) (fun _ _ _ h => h) (Or.inl ⟨by rfl, ?_⟩) (by assumption) ?_
  rotate_left
  · intro w_ hSw; (try dsimp only at hSw); go_simp; (try with_reducible rfl)
  (try simp only [Act.put, List.setIfInBounds_toArray, List.set_cons_zero, List.set_cons_succ])
  refine wpAnyH_ready (rs := [9]) (by kernel_rfl) (by simp) ?_
  refine AllReadyH.cons rfl (fun K hK => ?_) AllReadyH.nil
  go_simp
  (try go_simp)
  refine hK.out _ _ (by first | exact ⟨X0, X1, X2, X3⟩ | exact ⟨ckeep (cbal _ _) X0, ckeep (cbal _ _) X1, ckeep (cbal _ _) X2, ckeep (cbal _ _) X3⟩ | exact ⟨ckeep (below_drew (cbal _ _)) X0, ckeep (below_drew (cbal _ _)) X1, ckeep (below_drew (cbal _ _)) X2, ckeep (below_drew (cbal _ _)) X3⟩) (fun hHeld => ?_)
  (try simp only [Act.put, List.setIfInBounds_toArray, List.set_cons_zero, List.set_cons_succ])
  refine wpAnyH_done (by kernel_rfl) ?_ _
  obtain ⟨w2, e2, hb2, hs2, Y0, Y1, -, -⟩ := b2_new w1 (.int .i64 a) (.int .i64 s) 82
  obtain ⟨w3, e3⟩ : ∃ w3, w2.drew = w3 := ⟨_, rfl⟩
  have HB := hide (bcall hb1 (show Below w1.heap.size w1 w3 by rw [← e3]; exact below_drew hb2))
  rw [hs1] at Y0 Y1
  have K0 : w3.cell? ⟨w.heap.size, 0, none⟩ = some (.int .i64 4) := by rw [← e3]; exact (show w2.cell? _ = _ from ckeep hb2 X0)
  have Z0 : w3.cell? ⟨w.heap.size + 1, 0, none⟩ = some (.int .i64 a) := by rw [← e3]; exact (show w2.cell? _ = _ from Y0)
  have Z1 : w3.cell? ⟨w.heap.size + 1, 1, none⟩ = some (.int .i64 s) := by rw [← e3]; exact (show w2.cell? _ = _ from Y1)
  rw [e2, e3]
  clear X0 X1 X2 X3 Y0 Y1 hHeld hs1 hs2 hb1 hb2 e2 e3
  go_wp2
  refine wp_region_held_drew (S := fun w' => w'.cell? ⟨w.heap.size + 1, 0, none⟩ = some (.int .i64 a) ∧ w'.cell? ⟨w.heap.size + 1, 1, none⟩ = some (.int .i64 s)) (by kernel_rfl) ?_ (fun hHeld => ?_)
  · exact ⟨Z0, Z1⟩
  refine wpAnyH_take (i := 0) (oi := { dst := some 35, op := Op.move (Operand.tmp 4), type := 80, pos := "piece.go:68", after := #[], guard := none }) (v := ?_) rfl (by kernel_rfl) (by kernel_rfl) (by kernel_rfl) (fun _ _ _ h => h) (Or.inl ⟨by rfl, ?_⟩) (by assumption) ?_
  rotate_left
  · intro w_ hSw; (try dsimp only at hSw); go_simp; (try with_reducible rfl)
  (try simp only [Act.put, List.setIfInBounds_toArray, List.set_cons_zero, List.set_cons_succ])
  refine wpAnyH_take (i := 1) (oi := { dst := some 36, op := Op.makeInterface 80 (Operand.tmp 35), type := 71, pos := "piece.go:68", after := #[{ on := 0, ground := Ground.data }], guard := none }) (v := ?_) rfl (by kernel_rfl) (by kernel_rfl) (by kernel_rfl) (fun _ _ _ h => h) (Or.inl ⟨by rfl, ?_⟩) (by assumption) ?_
  rotate_left
  · intro w_ hSw; (try dsimp only at hSw); go_simp; (try with_reducible rfl)
  (try simp only [Act.put, List.setIfInBounds_toArray, List.set_cons_zero, List.set_cons_succ])
  refine wpAnyH_take (i := 2) (oi := { dst := some 37, op := Op.fieldAddr 82 (Operand.tmp 5) 0, type := 0, pos := "piece.go:68", after := #[], guard := none }) (v := ?_) rfl (by kernel_rfl) (by kernel_rfl) (by kernel_rfl) (fun _ _ _ h => h) (Or.inl ⟨by rfl, ?_⟩) (by assumption) ?_
  rotate_left
  · intro w_ hSw; (try dsimp only at hSw); go_simp; (try with_reducible rfl)
  (try simp only [Act.put, List.setIfInBounds_toArray, List.set_cons_zero, List.set_cons_succ])
  refine wpAnyH_take (i := 3) (oi := { dst := some 38, op := Op.load 80 (Operand.tmp 37), type := 80, pos := "piece.go:68", after := #[{ on := 2, ground := Ground.data }], guard := none }) (v := ?_) rfl (by kernel_rfl) (by kernel_rfl) (by kernel_rfl) (fun _ _ _ h => h) (Or.inl ⟨by rfl, ?_⟩) (by assumption) ?_
  rotate_left
  · intro w_ hSw; (try dsimp only at hSw); go_simp; (try with_reducible rfl)
  (try simp only [Act.put, List.setIfInBounds_toArray, List.set_cons_zero, List.set_cons_succ])
  refine wpAnyH_take (i := 4) (oi := { dst := some 39, op := Op.makeInterface 80 (Operand.tmp 38), type := 71, pos := "piece.go:68", after := #[{ on := 3, ground := Ground.data }, { on := 5, ground := Ground.gcOnly Departure.lateStores }], guard := none }) (v := ?_) rfl (by kernel_rfl) (by kernel_rfl) (by kernel_rfl) (fun _ _ _ h => h) (Or.inl ⟨by rfl, ?_⟩) (by assumption) ?_
  rotate_left
  · intro w_ hSw; (try dsimp only at hSw); go_simp; (try with_reducible rfl)
  (try simp only [Act.put, List.setIfInBounds_toArray, List.set_cons_zero, List.set_cons_succ])
  refine wpAnyH_take (i := 5) (oi := { dst := some 2, op := Op.assign (Operand.tmp 36), type := 71, pos := "piece.go:68", after := #[{ on := 1, ground := Ground.data }, { on := 0, ground := Ground.phase }, { on := 1, ground := Ground.phase }, { on := 2, ground := Ground.textOnly Departure.lateStores }, { on := 3, ground := Ground.textOnly Departure.lateStores }, { on := 4, ground := Ground.textOnly Departure.lateStores }], guard := none }) (v := ?_) rfl (by kernel_rfl) (by kernel_rfl) (by kernel_rfl) (fun _ _ _ h => h) (Or.inl ⟨by rfl, ?_⟩) (by assumption) ?_
  rotate_left
  · intro w_ hSw; (try dsimp only at hSw); go_simp; (try with_reducible rfl)
  (try simp only [Act.put, List.setIfInBounds_toArray, List.set_cons_zero, List.set_cons_succ])
  refine wpAnyH_take (i := 6) (oi := { dst := some 3, op := Op.assign (Operand.tmp 39), type := 71, pos := "piece.go:68", after := #[{ on := 4, ground := Ground.data }, { on := 5, ground := Ground.chain }, { on := 0, ground := Ground.phase }, { on := 1, ground := Ground.phase }, { on := 2, ground := Ground.phase }, { on := 3, ground := Ground.phase }, { on := 4, ground := Ground.phase }, { on := 5, ground := Ground.phase }], guard := none }) (v := ?_) rfl (by kernel_rfl) (by kernel_rfl) (by kernel_rfl) (fun _ _ _ h => h) (Or.inl ⟨by rfl, ?_⟩) (by assumption) ?_
  rotate_left
  · intro w_ hSw; (try dsimp only at hSw); go_simp; (try with_reducible rfl)
  (try simp only [Act.put, List.setIfInBounds_toArray, List.set_cons_zero, List.set_cons_succ])
  refine wpAnyH_done (by kernel_rfl) ?_ _
  go_wp2
  go_ret2
  exact ⟨rfl, below_drew HB.out⟩
set_option maxRecDepth 100000 in
set_option maxHeartbeats 2000000 in
theorem sides_5 (r a s : Int) (w : World) : Calls Tryd.prog 37 #[qv 5 r a s] w fun e w' => e = .returned (.tuple #[regV r, nonV]) ∧ Below w.heap.size w w' := by
  obtain ⟨w1, e1, hb1, hs1, X⟩ := b4_new w (.int .i64 5) (.int .i64 r) (.int .i64 a) (.int .i64 s) 24
  have HE1 := hide e1
  obtain ⟨X0, X1, X2, X3⟩ := X.all
  clear e1 X
  go_enter Tryd.func37, Tryd.ntmps37
  go_upto_region 1 with (fail)
  rw [HE1.out]
  refine wp_region_held_drew (S := fun w' => w'.cell? ⟨w.heap.size, 0, none⟩ = some (.int .i64 5) ∧ w'.cell? ⟨w.heap.size, 1, none⟩ = some (.int .i64 r) ∧ w'.cell? ⟨w.heap.size, 2, none⟩ = some (.int .i64 a) ∧ w'.cell? ⟨w.heap.size, 3, none⟩ = some (.int .i64 s)) (by kernel_rfl) ?_ (fun hHeld => ?_)
  · exact (by first | exact ⟨X0, X1, X2, X3⟩ | exact ⟨ckeep (cbal _ _) X0, ckeep (cbal _ _) X1, ckeep (cbal _ _) X2, ckeep (cbal _ _) X3⟩ | exact ⟨ckeep (below_drew (cbal _ _)) X0, ckeep (below_drew (cbal _ _)) X1, ckeep (below_drew (cbal _ _)) X2, ckeep (below_drew (cbal _ _)) X3⟩)
  refine wpAnyH_take (i := 0) (oi := { dst := some 6, op := Op.fieldAddr 24 (Operand.tmp 1) 1, type := 0, pos := "piece.go:59", after := #[], guard := none }) (v := ?_) rfl (by kernel_rfl) (by kernel_rfl) (by kernel_rfl) (fun _ _ _ h => h) (Or.inl ⟨by rfl, ?_⟩) (by assumption) ?_
  rotate_left
  · intro w_ hSw; (try dsimp only at hSw); go_simp; (try with_reducible rfl)
  (try simp only [Act.put, List.setIfInBounds_toArray, List.set_cons_zero, List.set_cons_succ])
  refine wpAnyH_take (i := 1) (oi := { dst := some 7, op := Op.load 3 (Operand.tmp 6), type := 3, pos := "piece.go:59", after := #[{ on := 0, ground := Ground.data }], guard := none }) (v := ?_) rfl (by kernel_rfl) (by kernel_rfl) (by kernel_rfl) (fun _ _ _ h => h) (Or.inl ⟨by rfl, ?_⟩) (by assumption) ?_
  rotate_left
  · intro w_ hSw; (try dsimp only at hSw); go_simp; (try with_reducible rfl)
  (try simp only [Act.put, List.setIfInBounds_toArray, List.set_cons_zero, List.set_cons_succ])
  refine wpAnyH_take (i := 2) (oi := { dst := some 8, op := Op.fieldAddr 24 (Operand.tmp 1) 2, type := 0, pos := "piece.go:59", after := #[{ on := 8, ground := Ground.gcOnly Departure.lateStores }], guard := none }) (v := ?_) rfl (by kernel_rfl) (by kernel_rfl) (by kernel_rfl) (fun _ _ _ h => h) (Or.inl ⟨by rfl, ?_⟩) (by assumption) ?_
  rotate_left
  · intro w_ hSw; (try dsimp only at hSw); go_simp; (try with_reducible rfl)
  (try simp only [Act.put, List.setIfInBounds_toArray, List.set_cons_zero, List.set_cons_succ])
  refine wpAnyH_take (i := 3) (oi := { dst := some 9, op := Op.load 3 (Operand.tmp 8), type := 3, pos := "piece.go:59", after := #[{ on := 2, ground := Ground.data }, { on := 8, ground := Ground.gcOnly Departure.lateStores }], guard := none }) (v := ?_) rfl (by kernel_rfl) (by kernel_rfl) (by kernel_rfl) (fun _ _ _ h => h) (Or.inl ⟨by rfl, ?_⟩) (by assumption) ?_
  rotate_left
  · intro w_ hSw; (try dsimp only at hSw); go_simp; (try with_reducible rfl)
  (try simp only [Act.put, List.setIfInBounds_toArray, List.set_cons_zero, List.set_cons_succ])
  refine wpAnyH_take (i := 4) (oi := { dst := some 10, op := Op.fieldAddr 24 (Operand.tmp 1) 3, type := 0, pos := "piece.go:59", after := #[{ on := 8, ground := Ground.gcOnly Departure.lateStores }], guard := none }) (v := ?_) rfl (by kernel_rfl) (by kernel_rfl) (by kernel_rfl) (fun _ _ _ h => h) (Or.inl ⟨by rfl, ?_⟩) (by assumption) ?_
  rotate_left
  · intro w_ hSw; (try dsimp only at hSw); go_simp; (try with_reducible rfl)
  (try simp only [Act.put, List.setIfInBounds_toArray, List.set_cons_zero, List.set_cons_succ])
  refine wpAnyH_take (i := 5) (oi := { dst := some 11, op := Op.load 3 (Operand.tmp 10), type := 3, pos := "piece.go:59", after := #[{ on := 4, ground := Ground.data }, { on := 8, ground := Ground.gcOnly Departure.lateStores }], guard := none }) (v := ?_) rfl (by kernel_rfl) (by kernel_rfl) (by kernel_rfl) (fun _ _ _ h => h) (Or.inl ⟨by rfl, ?_⟩) (by assumption) ?_
  rotate_left
  · intro w_ hSw; (try dsimp only at hSw); go_simp; (try with_reducible rfl)
  (try simp only [Act.put, List.setIfInBounds_toArray, List.set_cons_zero, List.set_cons_succ])
  refine wpAnyH_take (i := 6) (oi := { dst := some 12, op := Op.build 82 #[(0, Operand.tmp 9), (1, Operand.tmp 11)], type := 82, pos := "piece.go:59", after := #[{ on := 3, ground := Ground.data }, { on := 5, ground := Ground.data }, { on := 8, ground := Ground.gcOnly Departure.lateStores }], guard := none }) (v := ?_) rfl (by kernel_rfl) (by kernel_rfl) (by kernel_rfl) (fun _ _ _ h => h) (Or.inl ⟨by rfl, ?_⟩) (by assumption) ?_
  rotate_left
  · intro w_ hSw; (try dsimp only at hSw); go_simp; (try with_reducible rfl)
  (try simp only [Act.put, List.setIfInBounds_toArray, List.set_cons_zero, List.set_cons_succ])
  refine wpAnyH_ready (rs := [7]) (by kernel_rfl) (by simp) ?_
  refine AllReadyH.cons rfl (fun K hK => ?_) AllReadyH.nil
  go_simp
  (try go_simp)
  refine hK.out _ _ (by first | exact ⟨X0, X1, X2, X3⟩ | exact ⟨ckeep (cbal _ _) X0, ckeep (cbal _ _) X1, ckeep (cbal _ _) X2, ckeep (cbal _ _) X3⟩ | exact ⟨ckeep (below_drew (cbal _ _)) X0, ckeep (below_drew (cbal _ _)) X1, ckeep (below_drew (cbal _ _)) X2, ckeep (below_drew (cbal _ _)) X3⟩) (fun hHeld => ?_)
  (try simp only [Act.put, List.setIfInBounds_toArray, List.set_cons_zero, List.set_cons_succ])
  refine wpAnyH_take (i := 8) (oi := { dst := some 4, op := Op.assign (Operand.tmp 7), type := 80, pos := "piece.go:59", after := #[{ on := 1, ground := Ground.data }, { on := 0, ground := Ground.phase }, { on := 1, ground := Ground.phase }, { on := 2, ground := Ground.textOnly Departure.lateStores }, { on := 3, ground := Ground.textOnly Departure.lateStores }, { on := 4, ground := Ground.textOnly Departure.lateStores }, { on := 5, ground := Ground.textOnly Departure.lateStores }, { on := 6, ground := Ground.textOnly Departure.lateStores }, { on := 7, ground := Ground.phase }], guard := none }) (v := ?_) rfl (by kernel_rfl) (by kernel_rfl) (by kernel_rfl) (fun _ _ _ h => h) (Or.inl ⟨by rfl, ?_⟩) (by assumption) ?_
  rotate_left
  · intro w_ hSw; (try dsimp only at hSw); go_simp; (try with_reducible rfl)
  (try simp only [Act.put, List.setIfInBounds_toArray, List.set_cons_zero, List.set_cons_succ])
  refine wpAnyH_ready (rs := [9]) (by kernel_rfl) (by simp) ?_
  refine AllReadyH.cons rfl (fun K hK => ?_) AllReadyH.nil
  go_simp
  (try go_simp)
  refine hK.out _ _ (by first | exact ⟨X0, X1, X2, X3⟩ | exact ⟨ckeep (cbal _ _) X0, ckeep (cbal _ _) X1, ckeep (cbal _ _) X2, ckeep (cbal _ _) X3⟩ | exact ⟨ckeep (below_drew (cbal _ _)) X0, ckeep (below_drew (cbal _ _)) X1, ckeep (below_drew (cbal _ _)) X2, ckeep (below_drew (cbal _ _)) X3⟩) (fun hHeld => ?_)
  (try simp only [Act.put, List.setIfInBounds_toArray, List.set_cons_zero, List.set_cons_succ])
  refine wpAnyH_done (by kernel_rfl) ?_ _
  obtain ⟨w2, e2, hb2, hs2, Y0, Y1, -, -⟩ := b2_new w1 (.int .i64 a) (.int .i64 s) 82
  obtain ⟨w3, e3⟩ : ∃ w3, w2.drew = w3 := ⟨_, rfl⟩
  have HB := hide (bcall hb1 (show Below w1.heap.size w1 w3 by rw [← e3]; exact below_drew hb2))
  rw [hs1] at Y0 Y1
  have K0 : w3.cell? ⟨w.heap.size, 0, none⟩ = some (.int .i64 5) := by rw [← e3]; exact (show w2.cell? _ = _ from ckeep hb2 X0)
  have Z0 : w3.cell? ⟨w.heap.size + 1, 0, none⟩ = some (.int .i64 a) := by rw [← e3]; exact (show w2.cell? _ = _ from Y0)
  have Z1 : w3.cell? ⟨w.heap.size + 1, 1, none⟩ = some (.int .i64 s) := by rw [← e3]; exact (show w2.cell? _ = _ from Y1)
  rw [e2, e3]
  clear X0 X1 X2 X3 Y0 Y1 hHeld hs1 hs2 hb1 hb2 e2 e3
  go_wp2
  go_ret2
  exact ⟨rfl, HB.out⟩
theorem ret_strL {l l' : List UInt8} (h : l = l') : Ending.returned (.string ⟨l.toArray⟩) = .returned (.string ⟨l'.toArray⟩) := by rw [h]
theorem regText_any (r : Int) (h0 : 0 ≤ r) (h1 : r < 4) (w : World) : Calls Tryd.prog 72 #[.int .i64 r] w fun e w' => e = .returned (.string ⟨[cLet r].toArray⟩) ∧ w' = w := by
  have hr : r = 0 ∨ r = 1 ∨ r = 2 ∨ r = 3 := by omega
  clear h0 h1
  rcases hr with rfl | rfl | rfl | rfl
  · have hc : ∀ w, (convert 21 9 (.int .i32 65)).run Tryd.prog w = .ok (.string ⟨[65].toArray⟩) w := fun _ => by kernel_rfl
    go_enter Tryd.func72, Tryd.ntmps72
    go_wp2
    go_ret
    exact ⟨rfl, rfl⟩
  · have hc : ∀ w, (convert 21 9 (.int .i32 66)).run Tryd.prog w = .ok (.string ⟨[66].toArray⟩) w := fun _ => by kernel_rfl
    go_enter Tryd.func72, Tryd.ntmps72
    go_wp2
    go_ret
    exact ⟨rfl, rfl⟩
  · have hc : ∀ w, (convert 21 9 (.int .i32 67)).run Tryd.prog w = .ok (.string ⟨[67].toArray⟩) w := fun _ => by kernel_rfl
    go_enter Tryd.func72, Tryd.ntmps72
    go_wp2
    go_ret
    exact ⟨rfl, rfl⟩
  · have hc : ∀ w, (convert 21 9 (.int .i32 68)).run Tryd.prog w = .ok (.string ⟨[68].toArray⟩) w := fun _ => by kernel_rfl
    go_enter Tryd.func72, Tryd.ntmps72
    go_wp2
    go_ret
    exact ⟨rfl, rfl⟩
theorem dd_dig (n : Nat) (h : n < 4) : Go.Lib.decDigits n = [cDig (n : Int)] := by
  have hn : n = 0 ∨ n = 1 ∨ n = 2 ∨ n = 3 := by omega
  rcases hn with rfl | rfl | rfl | rfl <;> decide +kernel
set_option maxRecDepth 100000 in
set_option maxHeartbeats 1000000 in
theorem plcText_any (r s : Int) (h0 : 0 ≤ r) (h1 : r < 4) (s0 : 0 ≤ s) (s1 : s < 4) (w : World) : Calls Tryd.prog 73 #[.agg #[.int .i64 r, .int .i64 s]] w fun e w' => e = .returned (.string ⟨[cLet r, 46, cDig s].toArray⟩) ∧ Below w.heap.size w w' := by
  obtain ⟨n, rfl⟩ : ∃ n : Nat, s = n := ⟨s.toNat, by omega⟩
  have HI := hide (Tryd.strconv_Itoa_small n (by omega))
  have HD := hide (dd_dig n (by omega))
  have HR := hide (show 0 ≤ r ∧ r < 4 from ⟨h0, h1⟩)
  clear h0 h1 s0 s1
  obtain ⟨w1, e1, hb1, hs1, X0, X1, -, -⟩ := b2_new w (.int .i64 r) (.int .i64 (n : Nat)) 82
  have HE1 := hide e1
  clear e1 hs1
  go_enter Tryd.func73, Tryd.ntmps73
  go_upto_region 1 with (fail)
  rw [HE1.out]
  refine wp_region_held_drew (S := fun w' => w'.cell? ⟨w.heap.size, 0, none⟩ = some (.int .i64 r) ∧ w'.cell? ⟨w.heap.size, 1, none⟩ = some (.int .i64 (n : Nat))) (by kernel_rfl) ?_ (fun hHeld => ?_)
  · exact ⟨X0, X1⟩
  refine wpAnyH_take (i := 0) (oi := { dst := some 3, op := Op.fieldAddr 82 (Operand.tmp 1) 0, type := 0, pos := "piece.go:43", after := #[], guard := none }) (v := ?_) rfl (by kernel_rfl) (by kernel_rfl) (by kernel_rfl) (fun _ _ _ h => h) (Or.inl ⟨by rfl, ?_⟩) (by assumption) ?_
  rotate_left
  · intro w_ hSw; (try dsimp only at hSw); go_simp; (try with_reducible rfl)
  (try simp only [Act.put, List.setIfInBounds_toArray, List.set_cons_zero, List.set_cons_succ])
  refine wpAnyH_take (i := 1) (oi := { dst := some 4, op := Op.load 80 (Operand.tmp 3), type := 80, pos := "piece.go:43", after := #[{ on := 0, ground := Ground.data }], guard := none }) (v := ?_) rfl (by kernel_rfl) (by kernel_rfl) (by kernel_rfl) (fun _ _ _ h => h) (Or.inl ⟨by rfl, ?_⟩) (by assumption) ?_
  rotate_left
  · intro w_ hSw; (try dsimp only at hSw); go_simp; (try with_reducible rfl)
  (try simp only [Act.put, List.setIfInBounds_toArray, List.set_cons_zero, List.set_cons_succ])
  refine wpAnyH_take (i := 4) (oi := { dst := some 7, op := Op.fieldAddr 82 (Operand.tmp 1) 1, type := 0, pos := "piece.go:43", after := #[], guard := none }) (v := ?_) rfl (by kernel_rfl) (by kernel_rfl) (by kernel_rfl) (fun _ _ _ h => h) (Or.inl ⟨by rfl, ?_⟩) (by assumption) ?_
  rotate_left
  · intro w_ hSw; (try dsimp only at hSw); go_simp; (try with_reducible rfl)
  (try simp only [Act.put, List.setIfInBounds_toArray, List.set_cons_zero, List.set_cons_succ])
  refine wpAnyH_take (i := 5) (oi := { dst := some 8, op := Op.load 3 (Operand.tmp 7), type := 3, pos := "piece.go:43", after := #[{ on := 4, ground := Ground.data }], guard := none }) (v := ?_) rfl (by kernel_rfl) (by kernel_rfl) (by kernel_rfl) (fun _ _ _ h => h) (Or.inl ⟨by rfl, ?_⟩) (by assumption) ?_
  rotate_left
  · intro w_ hSw; (try dsimp only at hSw); go_simp; (try with_reducible rfl)
  (try simp only [Act.put, List.setIfInBounds_toArray, List.set_cons_zero, List.set_cons_succ])
  refine wpAnyH_ready (rs := [2]) (by kernel_rfl) (by simp) ?_
  refine AllReadyH.cons rfl (fun K hK => ?_) AllReadyH.nil
  go_simp
  go_at_call 72
  (with_reducible refine (regText_any r HR.out.1 HR.out.2 _).mono ?_)
  rintro e _ ⟨rfl, rfl⟩
  (try go_simp)
  refine hK.out _ _ ⟨X0, X1⟩ (fun hHeld => ?_)
  (try simp only [Act.put, List.setIfInBounds_toArray, List.set_cons_zero, List.set_cons_succ])
  refine wpAnyH_take (i := 3) (oi := { dst := some 6, op := Op.binOp BinOp.add 9 (Operand.tmp 5) (Operand.const (Value.string { data := #[46] })) 9, type := 9, pos := "piece.go:43", after := #[{ on := 2, ground := Ground.data }], guard := none }) (v := ?_) rfl (by kernel_rfl) (by kernel_rfl) (by kernel_rfl) (fun _ _ _ h => h) (Or.inl ⟨by rfl, ?_⟩) (by assumption) ?_
  rotate_left
  · intro w_ hSw; (try dsimp only at hSw); go_simp; (try with_reducible rfl)
  (try simp only [Act.put, List.setIfInBounds_toArray, List.set_cons_zero, List.set_cons_succ])
  refine wpAnyH_ready (rs := [6]) (by kernel_rfl) (by simp) ?_
  refine AllReadyH.cons rfl (fun K hK => ?_) AllReadyH.nil
  go_simp
  go_at_call 74
  refine (HI.out _).mono ?_
  rintro e _ ⟨rfl, rfl⟩
  rw [HD.out]
  (try go_simp)
  refine hK.out _ _ ⟨X0, X1⟩ (fun hHeld => ?_)
  (try simp only [Act.put, List.setIfInBounds_toArray, List.set_cons_zero, List.set_cons_succ])
  refine wpAnyH_take (i := 7) (oi := { dst := some 10, op := Op.binOp BinOp.add 9 (Operand.tmp 6) (Operand.tmp 9) 9, type := 9, pos := "piece.go:43", after := #[{ on := 3, ground := Ground.data }, { on := 6, ground := Ground.data }], guard := none }) (v := ?_) rfl (by kernel_rfl) (by kernel_rfl) (by kernel_rfl) (fun _ _ _ h => h) (Or.inl ⟨by rfl, ?_⟩) (by assumption) ?_
  rotate_left
  · intro w_ hSw; (try dsimp only at hSw); go_simp; (try with_reducible rfl)
  (try simp only [Act.put, List.setIfInBounds_toArray, List.set_cons_zero, List.set_cons_succ])
  refine wpAnyH_take (i := 8) (oi := { dst := some 2, op := Op.assign (Operand.tmp 10), type := 9, pos := "piece.go:43", after := #[{ on := 7, ground := Ground.data }, { on := 6, ground := Ground.chain }, { on := 0, ground := Ground.phase }, { on := 1, ground := Ground.phase }, { on := 2, ground := Ground.phase }, { on := 3, ground := Ground.phase }, { on := 4, ground := Ground.phase }, { on := 5, ground := Ground.phase }, { on := 6, ground := Ground.phase }, { on := 7, ground := Ground.phase }], guard := none }) (v := ?_) rfl (by kernel_rfl) (by kernel_rfl) (by kernel_rfl) (fun _ _ _ h => h) (Or.inl ⟨by rfl, ?_⟩) (by assumption) ?_
  rotate_left
  · intro w_ hSw; (try dsimp only at hSw); go_simp; (try with_reducible rfl)
  (try simp only [Act.put, List.setIfInBounds_toArray, List.set_cons_zero, List.set_cons_succ])
  refine wpAnyH_done (by kernel_rfl) ?_ _
  go_wp2
  go_ret
  refine ⟨cret ?_, below_drew hb1⟩
  apply ByteArray.ext
  simp [ByteArray.data_append]
theorem freshText_any (w : World) : Calls Tryd.prog 88 #[.agg #[]] w fun e w' => e = .returned (.string ⟨[110, 101, 119].toArray⟩) ∧ Below w.heap.size w w' := by
  go_enter Tryd.func88, Tryd.ntmps88
  go_wp2
  go_ret
  exact ⟨rfl, cbal _ _⟩
theorem noneText_any (w : World) : Calls Tryd.prog 89 #[.agg #[]] w fun e w' => e = .returned (.string ⟨[48].toArray⟩) ∧ Below w.heap.size w w' := by
  go_enter Tryd.func89, Tryd.ntmps89
  go_wp2
  go_ret
  exact ⟨rfl, cbal _ _⟩
set_option maxRecDepth 100000 in
set_option maxHeartbeats 1000000 in
theorem opText_no (k r a s : Int) (h : cRight ⟨k, r, a, s⟩ 4 4 = false) (w : World) : Calls Tryd.prog 31 #[qv k r a s] w fun e w' => e = .returned (.string ⟨(cText ⟨k, r, a, s⟩).toArray⟩) ∧ Below w.heap.size w w' := by
  have H := hide h
  have EF := hide (show cText ⟨k, r, a, s⟩ = [63] from (text_no _).2 h)
  clear h
  obtain ⟨w1, e1, hb1, hs1, X⟩ := b4_new w (.int .i64 k) (.int .i64 r) (.int .i64 a) (.int .i64 s) 24
  have HE1 := hide e1
  obtain ⟨X0, X1, X2, X3⟩ := X.all
  clear e1 X
  go_enter Tryd.func31, Tryd.ntmps31
  go_upto_region 1 with (fail)
  rw [HE1.out]
  go_wp2_with fail
  (with_reducible refine (Right_any k r a s 4 4 _).mono ?_)
  rintro e w2 ⟨rfl, hb2⟩
  rw [H.out]
  have hB := bcall hb1 hb2
  go_wp2
  go_ret
  exact ⟨cret (by rw [EF.out]), hB⟩
set_option maxRecDepth 100000 in
set_option maxHeartbeats 2000000 in
theorem opText_1 (r a s : Int) (h : cRight ⟨1, r, a, s⟩ 4 4 = true) (w : World) : Calls Tryd.prog 31 #[qv 1 r a s] w fun e w' => e = .returned (.string ⟨(cText ⟨1, r, a, s⟩).toArray⟩) ∧ Below w.heap.size w w' := by
  have H := hide h
  obtain ⟨⟨r0, r1⟩, ⟨a0, a1⟩, ⟨s0, s1⟩, -⟩ := cRight_rng h
  have HR := hide (show 0 ≤ r ∧ r < 4 from ⟨r0, r1⟩)
  have HA := hide (show 0 ≤ a ∧ a < 4 from ⟨a0, a1⟩)
  have HS := hide (show 0 ≤ s ∧ s < 4 from ⟨s0, s1⟩)
  have EF := hide (show cText ⟨1, r, a, s⟩ = [cLet r, 61, cLet a, 46, cDig s] by unfold cText; rw [h]; rfl)
  clear h r0 r1 a0 a1 s0 s1
  have hm0 : ∀ w, (method 71 80 (.int .i64 r) "besom/code.text").run Tryd.prog w = .ok (72, (.int .i64 r)) w := fun _ => by kernel_rfl
  have hm1 : ∀ w, (method 71 82 (.agg #[.int .i64 a, .int .i64 s]) "besom/code.text").run Tryd.prog w = .ok (73, (.agg #[.int .i64 a, .int .i64 s])) w := fun _ => by kernel_rfl
  obtain ⟨w1, e1, hb1, hs1, X⟩ := b4_new w (.int .i64 1) (.int .i64 r) (.int .i64 a) (.int .i64 s) 24
  have HE1 := hide e1
  have HX := hide X
  obtain ⟨X0, X1, X2, X3⟩ := X.all
  clear e1 X
  go_enter Tryd.func31, Tryd.ntmps31
  go_upto_region 1 with (fail)
  rw [HE1.out]
  go_wp2_with fail
  (with_reducible refine (Right_any 1 r a s 4 4 _).mono ?_)
  rintro e w2 ⟨rfl, hb2⟩
  rw [H.out]
  have HX2 := hide (HX.out.below hb2)
  have hB := bcall hb1 hb2
  clear X0 X1 X2 X3
  obtain ⟨X0, X1, X2, X3⟩ := HX2.out.all
  go_wp2_with fail
  (with_reducible refine (sides_1 r a s _).mono ?_)
  rintro e w3 ⟨rfl, hb3⟩
  replace hB := bcall hB hb3
  clear X0 X1 X2 X3
  go_wp2_with fail
  (with_reducible refine (regText_any r HR.out.1 HR.out.2 _).mono ?_)
  rintro e _ ⟨rfl, rfl⟩
  go_wp2_with fail
  (with_reducible refine (plcText_any a s HA.out.1 HA.out.2 HS.out.1 HS.out.2 _).mono ?_)
  rintro e w6 ⟨rfl, hb6⟩
  replace hB := bcall hB hb6
  go_wp2
  go_ret
  refine ⟨cret ?_, hB⟩
  rw [EF.out]
  apply ByteArray.ext
  simp [ByteArray.data_append]
set_option maxRecDepth 100000 in
set_option maxHeartbeats 2000000 in
theorem opText_2 (r a s : Int) (h : cRight ⟨2, r, a, s⟩ 4 4 = true) (w : World) : Calls Tryd.prog 31 #[qv 2 r a s] w fun e w' => e = .returned (.string ⟨(cText ⟨2, r, a, s⟩).toArray⟩) ∧ Below w.heap.size w w' := by
  have H := hide h
  obtain ⟨⟨r0, r1⟩, ⟨a0, a1⟩, ⟨s0, s1⟩, -⟩ := cRight_rng h
  have HR := hide (show 0 ≤ r ∧ r < 4 from ⟨r0, r1⟩)
  have HA := hide (show 0 ≤ a ∧ a < 4 from ⟨a0, a1⟩)
  have HS := hide (show 0 ≤ s ∧ s < 4 from ⟨s0, s1⟩)
  have EF := hide (show cText ⟨2, r, a, s⟩ = [cLet a, 46, cDig s, 61, cLet r] by unfold cText; rw [h]; rfl)
  clear h r0 r1 a0 a1 s0 s1
  have hm0 : ∀ w, (method 71 82 (.agg #[.int .i64 a, .int .i64 s]) "besom/code.text").run Tryd.prog w = .ok (73, (.agg #[.int .i64 a, .int .i64 s])) w := fun _ => by kernel_rfl
  have hm1 : ∀ w, (method 71 80 (.int .i64 r) "besom/code.text").run Tryd.prog w = .ok (72, (.int .i64 r)) w := fun _ => by kernel_rfl
  obtain ⟨w1, e1, hb1, hs1, X⟩ := b4_new w (.int .i64 2) (.int .i64 r) (.int .i64 a) (.int .i64 s) 24
  have HE1 := hide e1
  have HX := hide X
  obtain ⟨X0, X1, X2, X3⟩ := X.all
  clear e1 X
  go_enter Tryd.func31, Tryd.ntmps31
  go_upto_region 1 with (fail)
  rw [HE1.out]
  go_wp2_with fail
  (with_reducible refine (Right_any 2 r a s 4 4 _).mono ?_)
  rintro e w2 ⟨rfl, hb2⟩
  rw [H.out]
  have HX2 := hide (HX.out.below hb2)
  have hB := bcall hb1 hb2
  clear X0 X1 X2 X3
  obtain ⟨X0, X1, X2, X3⟩ := HX2.out.all
  go_wp2_with fail
  (with_reducible refine (sides_2 r a s _).mono ?_)
  rintro e w3 ⟨rfl, hb3⟩
  replace hB := bcall hB hb3
  clear X0 X1 X2 X3
  go_wp2_with fail
  (with_reducible refine (plcText_any a s HA.out.1 HA.out.2 HS.out.1 HS.out.2 _).mono ?_)
  rintro e w5 ⟨rfl, hb5⟩
  replace hB := bcall hB hb5
  go_wp2_with fail
  (with_reducible refine (regText_any r HR.out.1 HR.out.2 _).mono ?_)
  rintro e _ ⟨rfl, rfl⟩
  go_wp2
  go_ret
  refine ⟨cret ?_, hB⟩
  rw [EF.out]
  apply ByteArray.ext
  simp [ByteArray.data_append]
set_option maxRecDepth 100000 in
set_option maxHeartbeats 2000000 in
theorem opText_3 (r a s : Int) (h : cRight ⟨3, r, a, s⟩ 4 4 = true) (w : World) : Calls Tryd.prog 31 #[qv 3 r a s] w fun e w' => e = .returned (.string ⟨(cText ⟨3, r, a, s⟩).toArray⟩) ∧ Below w.heap.size w w' := by
  have H := hide h
  obtain ⟨⟨r0, r1⟩, ⟨a0, a1⟩, ⟨s0, s1⟩, -⟩ := cRight_rng h
  have HR := hide (show 0 ≤ r ∧ r < 4 from ⟨r0, r1⟩)
  have HA := hide (show 0 ≤ a ∧ a < 4 from ⟨a0, a1⟩)
  have HS := hide (show 0 ≤ s ∧ s < 4 from ⟨s0, s1⟩)
  have EF := hide (show cText ⟨3, r, a, s⟩ = [cLet r, 61, 110, 101, 119] by unfold cText; rw [h]; rfl)
  clear h r0 r1 a0 a1 s0 s1
  have hm0 : ∀ w, (method 71 80 (.int .i64 r) "besom/code.text").run Tryd.prog w = .ok (72, (.int .i64 r)) w := fun _ => by kernel_rfl
  have hm1 : ∀ w, (method 71 84 (.agg #[]) "besom/code.text").run Tryd.prog w = .ok (88, (.agg #[])) w := fun _ => by kernel_rfl
  obtain ⟨w1, e1, hb1, hs1, X⟩ := b4_new w (.int .i64 3) (.int .i64 r) (.int .i64 a) (.int .i64 s) 24
  have HE1 := hide e1
  have HX := hide X
  obtain ⟨X0, X1, X2, X3⟩ := X.all
  clear e1 X
  go_enter Tryd.func31, Tryd.ntmps31
  go_upto_region 1 with (fail)
  rw [HE1.out]
  go_wp2_with fail
  (with_reducible refine (Right_any 3 r a s 4 4 _).mono ?_)
  rintro e w2 ⟨rfl, hb2⟩
  rw [H.out]
  have HX2 := hide (HX.out.below hb2)
  have hB := bcall hb1 hb2
  clear X0 X1 X2 X3
  obtain ⟨X0, X1, X2, X3⟩ := HX2.out.all
  go_wp2_with fail
  (with_reducible refine (sides_3 r a s _).mono ?_)
  rintro e w3 ⟨rfl, hb3⟩
  replace hB := bcall hB hb3
  clear X0 X1 X2 X3
  go_wp2_with fail
  (with_reducible refine (regText_any r HR.out.1 HR.out.2 _).mono ?_)
  rintro e _ ⟨rfl, rfl⟩
  go_wp2_with fail
  (with_reducible refine (freshText_any _).mono ?_)
  rintro e w6 ⟨rfl, hb6⟩
  replace hB := bcall hB hb6
  go_wp2
  go_ret
  refine ⟨cret ?_, hB⟩
  rw [EF.out]
  apply ByteArray.ext
  simp [ByteArray.data_append]
set_option maxRecDepth 100000 in
set_option maxHeartbeats 2000000 in
theorem opText_4 (r a s : Int) (h : cRight ⟨4, r, a, s⟩ 4 4 = true) (w : World) : Calls Tryd.prog 31 #[qv 4 r a s] w fun e w' => e = .returned (.string ⟨(cText ⟨4, r, a, s⟩).toArray⟩) ∧ Below w.heap.size w w' := by
  have H := hide h
  obtain ⟨⟨r0, r1⟩, ⟨a0, a1⟩, ⟨s0, s1⟩, -⟩ := cRight_rng h
  have HR := hide (show 0 ≤ r ∧ r < 4 from ⟨r0, r1⟩)
  have HA := hide (show 0 ≤ a ∧ a < 4 from ⟨a0, a1⟩)
  have HS := hide (show 0 ≤ s ∧ s < 4 from ⟨s0, s1⟩)
  have EF := hide (show cText ⟨4, r, a, s⟩ = [cLet r, 61, cLet a] by unfold cText; rw [h]; rfl)
  clear h r0 r1 a0 a1 s0 s1
  have hm0 : ∀ w, (method 71 80 (.int .i64 r) "besom/code.text").run Tryd.prog w = .ok (72, (.int .i64 r)) w := fun _ => by kernel_rfl
  have hm1 : ∀ w, (method 71 80 (.int .i64 a) "besom/code.text").run Tryd.prog w = .ok (72, (.int .i64 a)) w := fun _ => by kernel_rfl
  obtain ⟨w1, e1, hb1, hs1, X⟩ := b4_new w (.int .i64 4) (.int .i64 r) (.int .i64 a) (.int .i64 s) 24
  have HE1 := hide e1
  have HX := hide X
  obtain ⟨X0, X1, X2, X3⟩ := X.all
  clear e1 X
  go_enter Tryd.func31, Tryd.ntmps31
  go_upto_region 1 with (fail)
  rw [HE1.out]
  go_wp2_with fail
  (with_reducible refine (Right_any 4 r a s 4 4 _).mono ?_)
  rintro e w2 ⟨rfl, hb2⟩
  rw [H.out]
  have HX2 := hide (HX.out.below hb2)
  have hB := bcall hb1 hb2
  clear X0 X1 X2 X3
  obtain ⟨X0, X1, X2, X3⟩ := HX2.out.all
  go_wp2_with fail
  (with_reducible refine (sides_4 r a s _).mono ?_)
  rintro e w3 ⟨rfl, hb3⟩
  replace hB := bcall hB hb3
  clear X0 X1 X2 X3
  go_wp2_with fail
  (with_reducible refine (regText_any r HR.out.1 HR.out.2 _).mono ?_)
  rintro e _ ⟨rfl, rfl⟩
  go_wp2_with fail
  (with_reducible refine (regText_any a HA.out.1 HA.out.2 _).mono ?_)
  rintro e _ ⟨rfl, rfl⟩
  go_wp2
  go_ret
  refine ⟨cret ?_, hB⟩
  rw [EF.out]
  apply ByteArray.ext
  simp [ByteArray.data_append]
set_option maxRecDepth 100000 in
set_option maxHeartbeats 2000000 in
theorem opText_5 (r a s : Int) (h : cRight ⟨5, r, a, s⟩ 4 4 = true) (w : World) : Calls Tryd.prog 31 #[qv 5 r a s] w fun e w' => e = .returned (.string ⟨(cText ⟨5, r, a, s⟩).toArray⟩) ∧ Below w.heap.size w w' := by
  have H := hide h
  obtain ⟨⟨r0, r1⟩, ⟨a0, a1⟩, ⟨s0, s1⟩, -⟩ := cRight_rng h
  have HR := hide (show 0 ≤ r ∧ r < 4 from ⟨r0, r1⟩)
  have HA := hide (show 0 ≤ a ∧ a < 4 from ⟨a0, a1⟩)
  have HS := hide (show 0 ≤ s ∧ s < 4 from ⟨s0, s1⟩)
  have EF := hide (show cText ⟨5, r, a, s⟩ = [cLet r, 61, 48] by unfold cText; rw [h]; rfl)
  clear h r0 r1 a0 a1 s0 s1
  have hm0 : ∀ w, (method 71 80 (.int .i64 r) "besom/code.text").run Tryd.prog w = .ok (72, (.int .i64 r)) w := fun _ => by kernel_rfl
  have hm1 : ∀ w, (method 71 85 (.agg #[]) "besom/code.text").run Tryd.prog w = .ok (89, (.agg #[])) w := fun _ => by kernel_rfl
  obtain ⟨w1, e1, hb1, hs1, X⟩ := b4_new w (.int .i64 5) (.int .i64 r) (.int .i64 a) (.int .i64 s) 24
  have HE1 := hide e1
  have HX := hide X
  obtain ⟨X0, X1, X2, X3⟩ := X.all
  clear e1 X
  go_enter Tryd.func31, Tryd.ntmps31
  go_upto_region 1 with (fail)
  rw [HE1.out]
  go_wp2_with fail
  (with_reducible refine (Right_any 5 r a s 4 4 _).mono ?_)
  rintro e w2 ⟨rfl, hb2⟩
  rw [H.out]
  have HX2 := hide (HX.out.below hb2)
  have hB := bcall hb1 hb2
  clear X0 X1 X2 X3
  obtain ⟨X0, X1, X2, X3⟩ := HX2.out.all
  go_wp2_with fail
  (with_reducible refine (sides_5 r a s _).mono ?_)
  rintro e w3 ⟨rfl, hb3⟩
  replace hB := bcall hB hb3
  clear X0 X1 X2 X3
  go_wp2_with fail
  (with_reducible refine (regText_any r HR.out.1 HR.out.2 _).mono ?_)
  rintro e _ ⟨rfl, rfl⟩
  go_wp2_with fail
  (with_reducible refine (noneText_any _).mono ?_)
  rintro e w6 ⟨rfl, hb6⟩
  replace hB := bcall hB hb6
  go_wp2
  go_ret
  refine ⟨cret ?_, hB⟩
  rw [EF.out]
  apply ByteArray.ext
  simp [ByteArray.data_append]
theorem opText_any (k r a s : Int) (w : World) : Calls Tryd.prog 31 #[qv k r a s] w fun e w' => e = .returned (.string ⟨(cText ⟨k, r, a, s⟩).toArray⟩) ∧ Below w.heap.size w w' := by
  cases h : cRight ⟨k, r, a, s⟩ 4 4
  · exact opText_no k r a s h w
  · obtain ⟨-, -, -, hk⟩ := cRight_rng h
    rcases hk with rfl | rfl | rfl | rfl | rfl
    · exact opText_1 r a s h w
    · exact opText_2 r a s h w
    · exact opText_3 r a s h w
    · exact opText_4 r a s h w
    · exact opText_5 r a s h w
set_option maxHeartbeats 1000000 in
theorem Text_any (k r a s : Int) (w : World) : Calls Tryd.prog 20 #[qv k r a s] w fun e w' => e = .returned (.string ⟨(cText ⟨k, r, a, s⟩).toArray⟩) ∧ Below w.heap.size w w' := by
  obtain ⟨w1, e1, hb1, hs1, X⟩ := b4_new w (.int .i64 k) (.int .i64 r) (.int .i64 a) (.int .i64 s) 24
  have HE1 := hide e1
  obtain ⟨X0, X1, X2, X3⟩ := X.all
  clear e1 X
  go_enter Tryd.func20, Tryd.ntmps20
  go_upto_region 1 with (fail)
  rw [HE1.out]
  go_wp2_with fail
  (with_reducible refine (opText_any k r a s _).mono ?_)
  rintro e w2 ⟨rfl, hb2⟩
  go_wp2
  go_ret
  exact ⟨rfl, bcall hb1 hb2⟩
end Go.Proofs.YtffdgkofolomlaaDoor
