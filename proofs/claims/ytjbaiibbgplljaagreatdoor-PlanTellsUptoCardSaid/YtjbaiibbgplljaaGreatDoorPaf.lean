import Derived.Deep.RegionHeldLaw
import Derived.Shelf.Abstract
import Derived.OwnWalkIn
import Derived.TacticsInMore
import Derived.LoopNIn
import Derived.LoopIn
import Derived.Test.YtjbaiibbgplljaaGreatDoorPac
import Derived.Test.YtjbaiibbgplljaaGreatDoorPae
set_option maxRecDepth 100000
set_option maxHeartbeats 40000000
namespace Go.Proofs.YtjbaiibbgplljaaGreatDoor
open Go.RowKit Go.Shelf Go.Proofs Go.Joins
abbrev regV (r : Int) : Value := .iface 262 (.int .i64 r)
abbrev plcV (r s : Int) : Value := .iface 264 (.agg #[.int .i64 r, .int .i64 s])
abbrev freV : Value := .iface 266 (.agg #[])
abbrev nonV : Value := .iface 267 (.agg #[])
theorem b2_newCd (w : World) (x y : Value) (t : TypeId) : ∃ w1, w.alloc (.cells #[x, y] t) = w1 ∧ Below w.heap.size w w1 ∧ w1.heap.size = w.heap.size + 1 ∧ w1.cell? ⟨w.heap.size, 0, none⟩ = some x ∧ w1.cell? ⟨w.heap.size, 1, none⟩ = some y ∧ w1.frozen? ⟨w.heap.size, 0, none⟩ = false ∧ w1.frozen? ⟨w.heap.size, 1, none⟩ = false :=
 ⟨_, rfl, (Below.refl _ _).alloc (Nat.le_refl _) _, by simp, cell_of_block (heap_alloc_new w _) 0, cell_of_block (heap_alloc_new w _) 1, unfrozen_of_block (heap_alloc_new w _) 0, unfrozen_of_block (heap_alloc_new w _) 1⟩
theorem below_drewCd {n : Nat} {a b : World} (h : Below n a b) : Below n a b.drew := ⟨h.os, h.tape, h.output, h.size, h.block⟩
theorem sides_1 (r a s : Int) (w : World) : Calls Tryz.prog 192 #[qv 1 r a s] w fun e w' => e = .returned (.tuple #[regV r, plcV a s]) ∧ Below w.heap.size w w' := by
 obtain ⟨w1, e1, hb1, hs1, X⟩ := b4_new w (.int .i64 1) (.int .i64 r) (.int .i64 a) (.int .i64 s) 96; have HE1 := hide e1; obtain ⟨X0, X1, X2, X3⟩ := X.all; clear e1 X; go_enter Tryz.func192, Tryz.ntmps192
 go_upto_region 1 with (fail)
 rw [HE1.out]; refine wp_region_held_drew (S := fun w' => w'.cell? ⟨w.heap.size, 0, none⟩ = some (.int .i64 1) ∧ w'.cell? ⟨w.heap.size, 1, none⟩ = some (.int .i64 r) ∧ w'.cell? ⟨w.heap.size, 2, none⟩ = some (.int .i64 a) ∧ w'.cell? ⟨w.heap.size, 3, none⟩ = some (.int .i64 s)) (by kernel_rfl) ?_ (fun hHeld => ?_)
 · exact (by first | exact ⟨X0, X1, X2, X3⟩ | exact ⟨ckeep (cbal _ _) X0, ckeep (cbal _ _) X1, ckeep (cbal _ _) X2, ckeep (cbal _ _) X3⟩ | exact ⟨ckeep (below_drewCd (cbal _ _)) X0, ckeep (below_drewCd (cbal _ _)) X1, ckeep (below_drewCd (cbal _ _)) X2, ckeep (below_drewCd (cbal _ _)) X3⟩)
 refine tk 0 ?_; refine tk 1 ?_; refine tk 2 ?_; refine tk 3 ?_; refine tk 4 ?_; refine tk 5 ?_; refine tk 6 ?_; refine r1 7 (fun K hK => ?_); go_simp; (try go_simp); refine go_ hK (by first | exact ⟨X0, X1, X2, X3⟩ | exact ⟨ckeep (cbal _ _) X0, ckeep (cbal _ _) X1, ckeep (cbal _ _) X2, ckeep (cbal _ _) X3⟩ | exact ⟨ckeep (below_drewCd (cbal _ _)) X0, ckeep (below_drewCd (cbal _ _)) X1, ckeep (below_drewCd (cbal _ _)) X2, ckeep (below_drewCd (cbal _ _)) X3⟩) (fun hHeld => ?_); refine tk 8 ?_; refine r1 9 (fun K hK => ?_); go_simp; (try go_simp); refine go_ hK (by first | exact ⟨X0, X1, X2, X3⟩ | exact ⟨ckeep (cbal _ _) X0, ckeep (cbal _ _) X1, ckeep (cbal _ _) X2, ckeep (cbal _ _) X3⟩ | exact ⟨ckeep (below_drewCd (cbal _ _)) X0, ckeep (below_drewCd (cbal _ _)) X1, ckeep (below_drewCd (cbal _ _)) X2, ckeep (below_drewCd (cbal _ _)) X3⟩) (fun hHeld => ?_); refine wpAnyH_done (by kernel_rfl) ?_ _; obtain ⟨w2, e2, hb2, hs2, Y0, Y1, -, -⟩ := b2_newCd w1 (.int .i64 a) (.int .i64 s) 264; obtain ⟨w3, e3⟩ : ∃ w3, w2.drew = w3 := ⟨_, rfl⟩; have HB := hide (bcall hb1 (show Below w1.heap.size w1 w3 by rw [← e3]; exact below_drewCd hb2)); rw [hs1] at Y0 Y1; have K0 : w3.cell? ⟨w.heap.size, 0, none⟩ = some (.int .i64 1) := by rw [← e3]; exact (show w2.cell? _ = _ from ckeep hb2 X0)
 have Z0 : w3.cell? ⟨w.heap.size + 1, 0, none⟩ = some (.int .i64 a) := by rw [← e3]; exact (show w2.cell? _ = _ from Y0)
 have Z1 : w3.cell? ⟨w.heap.size + 1, 1, none⟩ = some (.int .i64 s) := by rw [← e3]; exact (show w2.cell? _ = _ from Y1)
 rw [e2, e3]; clear X0 X1 X2 X3 Y0 Y1 hHeld hs1 hs2 hb1 hb2 e2 e3; go_wp2; refine wp_region_held_drew (S := fun w' => w'.cell? ⟨w.heap.size + 1, 0, none⟩ = some (.int .i64 a) ∧ w'.cell? ⟨w.heap.size + 1, 1, none⟩ = some (.int .i64 s)) (by kernel_rfl) ?_ (fun hHeld => ?_)
 · exact ⟨Z0, Z1⟩
 refine tk 0 ?_; refine tk 1 ?_; refine tk 2 ?_; refine tk 3 ?_; refine tk 4 ?_; refine tk 5 ?_; refine wpAnyH_done (by kernel_rfl) ?_ _; go_wp2; go_ret2
 exact ⟨rfl, below_drewCd HB.out⟩
theorem sides_2 (r a s : Int) (w : World) : Calls Tryz.prog 192 #[qv 2 r a s] w fun e w' => e = .returned (.tuple #[plcV a s, regV r]) ∧ Below w.heap.size w w' := by
 obtain ⟨w1, e1, hb1, hs1, X⟩ := b4_new w (.int .i64 2) (.int .i64 r) (.int .i64 a) (.int .i64 s) 96; have HE1 := hide e1; obtain ⟨X0, X1, X2, X3⟩ := X.all; clear e1 X; go_enter Tryz.func192, Tryz.ntmps192
 go_upto_region 1 with (fail)
 rw [HE1.out]; refine wp_region_held_drew (S := fun w' => w'.cell? ⟨w.heap.size, 0, none⟩ = some (.int .i64 2) ∧ w'.cell? ⟨w.heap.size, 1, none⟩ = some (.int .i64 r) ∧ w'.cell? ⟨w.heap.size, 2, none⟩ = some (.int .i64 a) ∧ w'.cell? ⟨w.heap.size, 3, none⟩ = some (.int .i64 s)) (by kernel_rfl) ?_ (fun hHeld => ?_)
 · exact (by first | exact ⟨X0, X1, X2, X3⟩ | exact ⟨ckeep (cbal _ _) X0, ckeep (cbal _ _) X1, ckeep (cbal _ _) X2, ckeep (cbal _ _) X3⟩ | exact ⟨ckeep (below_drewCd (cbal _ _)) X0, ckeep (below_drewCd (cbal _ _)) X1, ckeep (below_drewCd (cbal _ _)) X2, ckeep (below_drewCd (cbal _ _)) X3⟩)
 refine tk 0 ?_; refine tk 1 ?_; refine tk 2 ?_; refine tk 3 ?_; refine tk 4 ?_; refine tk 5 ?_; refine tk 6 ?_; refine r1 7 (fun K hK => ?_); go_simp; (try go_simp); refine go_ hK (by first | exact ⟨X0, X1, X2, X3⟩ | exact ⟨ckeep (cbal _ _) X0, ckeep (cbal _ _) X1, ckeep (cbal _ _) X2, ckeep (cbal _ _) X3⟩ | exact ⟨ckeep (below_drewCd (cbal _ _)) X0, ckeep (below_drewCd (cbal _ _)) X1, ckeep (below_drewCd (cbal _ _)) X2, ckeep (below_drewCd (cbal _ _)) X3⟩) (fun hHeld => ?_); refine tk 8 ?_; refine r1 9 (fun K hK => ?_); go_simp; (try go_simp); refine go_ hK (by first | exact ⟨X0, X1, X2, X3⟩ | exact ⟨ckeep (cbal _ _) X0, ckeep (cbal _ _) X1, ckeep (cbal _ _) X2, ckeep (cbal _ _) X3⟩ | exact ⟨ckeep (below_drewCd (cbal _ _)) X0, ckeep (below_drewCd (cbal _ _)) X1, ckeep (below_drewCd (cbal _ _)) X2, ckeep (below_drewCd (cbal _ _)) X3⟩) (fun hHeld => ?_); refine wpAnyH_done (by kernel_rfl) ?_ _; obtain ⟨w2, e2, hb2, hs2, Y0, Y1, -, -⟩ := b2_newCd w1 (.int .i64 a) (.int .i64 s) 264; obtain ⟨w3, e3⟩ : ∃ w3, w2.drew = w3 := ⟨_, rfl⟩; have HB := hide (bcall hb1 (show Below w1.heap.size w1 w3 by rw [← e3]; exact below_drewCd hb2)); rw [hs1] at Y0 Y1; have K0 : w3.cell? ⟨w.heap.size, 0, none⟩ = some (.int .i64 2) := by rw [← e3]; exact (show w2.cell? _ = _ from ckeep hb2 X0)
 have Z0 : w3.cell? ⟨w.heap.size + 1, 0, none⟩ = some (.int .i64 a) := by rw [← e3]; exact (show w2.cell? _ = _ from Y0)
 have Z1 : w3.cell? ⟨w.heap.size + 1, 1, none⟩ = some (.int .i64 s) := by rw [← e3]; exact (show w2.cell? _ = _ from Y1)
 rw [e2, e3]; clear X0 X1 X2 X3 Y0 Y1 hHeld hs1 hs2 hb1 hb2 e2 e3; go_wp2; go_ret2
 exact ⟨rfl, HB.out⟩
theorem sides_3 (r a s : Int) (w : World) : Calls Tryz.prog 192 #[qv 3 r a s] w fun e w' => e = .returned (.tuple #[regV r, freV]) ∧ Below w.heap.size w w' := by
 obtain ⟨w1, e1, hb1, hs1, X⟩ := b4_new w (.int .i64 3) (.int .i64 r) (.int .i64 a) (.int .i64 s) 96; have HE1 := hide e1; obtain ⟨X0, X1, X2, X3⟩ := X.all; clear e1 X; go_enter Tryz.func192, Tryz.ntmps192
 go_upto_region 1 with (fail)
 rw [HE1.out]; refine wp_region_held_drew (S := fun w' => w'.cell? ⟨w.heap.size, 0, none⟩ = some (.int .i64 3) ∧ w'.cell? ⟨w.heap.size, 1, none⟩ = some (.int .i64 r) ∧ w'.cell? ⟨w.heap.size, 2, none⟩ = some (.int .i64 a) ∧ w'.cell? ⟨w.heap.size, 3, none⟩ = some (.int .i64 s)) (by kernel_rfl) ?_ (fun hHeld => ?_)
 · exact (by first | exact ⟨X0, X1, X2, X3⟩ | exact ⟨ckeep (cbal _ _) X0, ckeep (cbal _ _) X1, ckeep (cbal _ _) X2, ckeep (cbal _ _) X3⟩ | exact ⟨ckeep (below_drewCd (cbal _ _)) X0, ckeep (below_drewCd (cbal _ _)) X1, ckeep (below_drewCd (cbal _ _)) X2, ckeep (below_drewCd (cbal _ _)) X3⟩)
 refine tk 0 ?_; refine tk 1 ?_; refine tk 2 ?_; refine tk 3 ?_; refine tk 4 ?_; refine tk 5 ?_; refine tk 6 ?_; refine r1 7 (fun K hK => ?_); go_simp; (try go_simp); refine go_ hK (by first | exact ⟨X0, X1, X2, X3⟩ | exact ⟨ckeep (cbal _ _) X0, ckeep (cbal _ _) X1, ckeep (cbal _ _) X2, ckeep (cbal _ _) X3⟩ | exact ⟨ckeep (below_drewCd (cbal _ _)) X0, ckeep (below_drewCd (cbal _ _)) X1, ckeep (below_drewCd (cbal _ _)) X2, ckeep (below_drewCd (cbal _ _)) X3⟩) (fun hHeld => ?_); refine tk 8 ?_; refine r1 9 (fun K hK => ?_); go_simp; (try go_simp); refine go_ hK (by first | exact ⟨X0, X1, X2, X3⟩ | exact ⟨ckeep (cbal _ _) X0, ckeep (cbal _ _) X1, ckeep (cbal _ _) X2, ckeep (cbal _ _) X3⟩ | exact ⟨ckeep (below_drewCd (cbal _ _)) X0, ckeep (below_drewCd (cbal _ _)) X1, ckeep (below_drewCd (cbal _ _)) X2, ckeep (below_drewCd (cbal _ _)) X3⟩) (fun hHeld => ?_); refine wpAnyH_done (by kernel_rfl) ?_ _; obtain ⟨w2, e2, hb2, hs2, Y0, Y1, -, -⟩ := b2_newCd w1 (.int .i64 a) (.int .i64 s) 264; obtain ⟨w3, e3⟩ : ∃ w3, w2.drew = w3 := ⟨_, rfl⟩; have HB := hide (bcall hb1 (show Below w1.heap.size w1 w3 by rw [← e3]; exact below_drewCd hb2)); rw [hs1] at Y0 Y1; have K0 : w3.cell? ⟨w.heap.size, 0, none⟩ = some (.int .i64 3) := by rw [← e3]; exact (show w2.cell? _ = _ from ckeep hb2 X0)
 have Z0 : w3.cell? ⟨w.heap.size + 1, 0, none⟩ = some (.int .i64 a) := by rw [← e3]; exact (show w2.cell? _ = _ from Y0)
 have Z1 : w3.cell? ⟨w.heap.size + 1, 1, none⟩ = some (.int .i64 s) := by rw [← e3]; exact (show w2.cell? _ = _ from Y1)
 rw [e2, e3]; clear X0 X1 X2 X3 Y0 Y1 hHeld hs1 hs2 hb1 hb2 e2 e3; go_wp2; go_ret2
 exact ⟨rfl, HB.out⟩
theorem sides_4 (r a s : Int) (w : World) : Calls Tryz.prog 192 #[qv 4 r a s] w fun e w' => e = .returned (.tuple #[regV r, regV a]) ∧ Below w.heap.size w w' := by
 obtain ⟨w1, e1, hb1, hs1, X⟩ := b4_new w (.int .i64 4) (.int .i64 r) (.int .i64 a) (.int .i64 s) 96; have HE1 := hide e1; obtain ⟨X0, X1, X2, X3⟩ := X.all; clear e1 X; go_enter Tryz.func192, Tryz.ntmps192
 go_upto_region 1 with (fail)
 rw [HE1.out]; refine wp_region_held_drew (S := fun w' => w'.cell? ⟨w.heap.size, 0, none⟩ = some (.int .i64 4) ∧ w'.cell? ⟨w.heap.size, 1, none⟩ = some (.int .i64 r) ∧ w'.cell? ⟨w.heap.size, 2, none⟩ = some (.int .i64 a) ∧ w'.cell? ⟨w.heap.size, 3, none⟩ = some (.int .i64 s)) (by kernel_rfl) ?_ (fun hHeld => ?_)
 · exact (by first | exact ⟨X0, X1, X2, X3⟩ | exact ⟨ckeep (cbal _ _) X0, ckeep (cbal _ _) X1, ckeep (cbal _ _) X2, ckeep (cbal _ _) X3⟩ | exact ⟨ckeep (below_drewCd (cbal _ _)) X0, ckeep (below_drewCd (cbal _ _)) X1, ckeep (below_drewCd (cbal _ _)) X2, ckeep (below_drewCd (cbal _ _)) X3⟩)
 refine tk 0 ?_; refine tk 1 ?_; refine tk 2 ?_; refine tk 3 ?_; refine tk 4 ?_; refine tk 5 ?_; refine tk 6 ?_; refine r1 7 (fun K hK => ?_); go_simp; (try go_simp); refine go_ hK (by first | exact ⟨X0, X1, X2, X3⟩ | exact ⟨ckeep (cbal _ _) X0, ckeep (cbal _ _) X1, ckeep (cbal _ _) X2, ckeep (cbal _ _) X3⟩ | exact ⟨ckeep (below_drewCd (cbal _ _)) X0, ckeep (below_drewCd (cbal _ _)) X1, ckeep (below_drewCd (cbal _ _)) X2, ckeep (below_drewCd (cbal _ _)) X3⟩) (fun hHeld => ?_); refine tk 8 ?_; refine r1 9 (fun K hK => ?_); go_simp; (try go_simp); refine go_ hK (by first | exact ⟨X0, X1, X2, X3⟩ | exact ⟨ckeep (cbal _ _) X0, ckeep (cbal _ _) X1, ckeep (cbal _ _) X2, ckeep (cbal _ _) X3⟩ | exact ⟨ckeep (below_drewCd (cbal _ _)) X0, ckeep (below_drewCd (cbal _ _)) X1, ckeep (below_drewCd (cbal _ _)) X2, ckeep (below_drewCd (cbal _ _)) X3⟩) (fun hHeld => ?_); refine wpAnyH_done (by kernel_rfl) ?_ _; obtain ⟨w2, e2, hb2, hs2, Y0, Y1, -, -⟩ := b2_newCd w1 (.int .i64 a) (.int .i64 s) 264; obtain ⟨w3, e3⟩ : ∃ w3, w2.drew = w3 := ⟨_, rfl⟩; have HB := hide (bcall hb1 (show Below w1.heap.size w1 w3 by rw [← e3]; exact below_drewCd hb2)); rw [hs1] at Y0 Y1; have K0 : w3.cell? ⟨w.heap.size, 0, none⟩ = some (.int .i64 4) := by rw [← e3]; exact (show w2.cell? _ = _ from ckeep hb2 X0)
 have Z0 : w3.cell? ⟨w.heap.size + 1, 0, none⟩ = some (.int .i64 a) := by rw [← e3]; exact (show w2.cell? _ = _ from Y0)
 have Z1 : w3.cell? ⟨w.heap.size + 1, 1, none⟩ = some (.int .i64 s) := by rw [← e3]; exact (show w2.cell? _ = _ from Y1)
 rw [e2, e3]; clear X0 X1 X2 X3 Y0 Y1 hHeld hs1 hs2 hb1 hb2 e2 e3; go_wp2; refine wp_region_held_drew (S := fun w' => w'.cell? ⟨w.heap.size + 1, 0, none⟩ = some (.int .i64 a) ∧ w'.cell? ⟨w.heap.size + 1, 1, none⟩ = some (.int .i64 s)) (by kernel_rfl) ?_ (fun hHeld => ?_)
 · exact ⟨Z0, Z1⟩
 refine tk 0 ?_; refine tk 1 ?_; refine tk 2 ?_; refine tk 3 ?_; refine tk 4 ?_; refine tk 5 ?_; refine tk 6 ?_; refine wpAnyH_done (by kernel_rfl) ?_ _; go_wp2; go_ret2
 exact ⟨rfl, below_drewCd HB.out⟩
theorem sides_5 (r a s : Int) (w : World) : Calls Tryz.prog 192 #[qv 5 r a s] w fun e w' => e = .returned (.tuple #[regV r, nonV]) ∧ Below w.heap.size w w' := by
 obtain ⟨w1, e1, hb1, hs1, X⟩ := b4_new w (.int .i64 5) (.int .i64 r) (.int .i64 a) (.int .i64 s) 96; have HE1 := hide e1; obtain ⟨X0, X1, X2, X3⟩ := X.all; clear e1 X; go_enter Tryz.func192, Tryz.ntmps192
 go_upto_region 1 with (fail)
 rw [HE1.out]; refine wp_region_held_drew (S := fun w' => w'.cell? ⟨w.heap.size, 0, none⟩ = some (.int .i64 5) ∧ w'.cell? ⟨w.heap.size, 1, none⟩ = some (.int .i64 r) ∧ w'.cell? ⟨w.heap.size, 2, none⟩ = some (.int .i64 a) ∧ w'.cell? ⟨w.heap.size, 3, none⟩ = some (.int .i64 s)) (by kernel_rfl) ?_ (fun hHeld => ?_)
 · exact (by first | exact ⟨X0, X1, X2, X3⟩ | exact ⟨ckeep (cbal _ _) X0, ckeep (cbal _ _) X1, ckeep (cbal _ _) X2, ckeep (cbal _ _) X3⟩ | exact ⟨ckeep (below_drewCd (cbal _ _)) X0, ckeep (below_drewCd (cbal _ _)) X1, ckeep (below_drewCd (cbal _ _)) X2, ckeep (below_drewCd (cbal _ _)) X3⟩)
 refine tk 0 ?_; refine tk 1 ?_; refine tk 2 ?_; refine tk 3 ?_; refine tk 4 ?_; refine tk 5 ?_; refine tk 6 ?_; refine r1 7 (fun K hK => ?_); go_simp; (try go_simp); refine go_ hK (by first | exact ⟨X0, X1, X2, X3⟩ | exact ⟨ckeep (cbal _ _) X0, ckeep (cbal _ _) X1, ckeep (cbal _ _) X2, ckeep (cbal _ _) X3⟩ | exact ⟨ckeep (below_drewCd (cbal _ _)) X0, ckeep (below_drewCd (cbal _ _)) X1, ckeep (below_drewCd (cbal _ _)) X2, ckeep (below_drewCd (cbal _ _)) X3⟩) (fun hHeld => ?_); refine tk 8 ?_; refine r1 9 (fun K hK => ?_); go_simp; (try go_simp); refine go_ hK (by first | exact ⟨X0, X1, X2, X3⟩ | exact ⟨ckeep (cbal _ _) X0, ckeep (cbal _ _) X1, ckeep (cbal _ _) X2, ckeep (cbal _ _) X3⟩ | exact ⟨ckeep (below_drewCd (cbal _ _)) X0, ckeep (below_drewCd (cbal _ _)) X1, ckeep (below_drewCd (cbal _ _)) X2, ckeep (below_drewCd (cbal _ _)) X3⟩) (fun hHeld => ?_); refine wpAnyH_done (by kernel_rfl) ?_ _; obtain ⟨w2, e2, hb2, hs2, Y0, Y1, -, -⟩ := b2_newCd w1 (.int .i64 a) (.int .i64 s) 264; obtain ⟨w3, e3⟩ : ∃ w3, w2.drew = w3 := ⟨_, rfl⟩; have HB := hide (bcall hb1 (show Below w1.heap.size w1 w3 by rw [← e3]; exact below_drewCd hb2)); rw [hs1] at Y0 Y1; have K0 : w3.cell? ⟨w.heap.size, 0, none⟩ = some (.int .i64 5) := by rw [← e3]; exact (show w2.cell? _ = _ from ckeep hb2 X0)
 have Z0 : w3.cell? ⟨w.heap.size + 1, 0, none⟩ = some (.int .i64 a) := by rw [← e3]; exact (show w2.cell? _ = _ from Y0)
 have Z1 : w3.cell? ⟨w.heap.size + 1, 1, none⟩ = some (.int .i64 s) := by rw [← e3]; exact (show w2.cell? _ = _ from Y1)
 rw [e2, e3]; clear X0 X1 X2 X3 Y0 Y1 hHeld hs1 hs2 hb1 hb2 e2 e3; go_wp2; go_ret2
 exact ⟨rfl, HB.out⟩
theorem regText_any (r : Int) (h0 : 0 ≤ r) (h1 : r < 4) (w : World) : Calls Tryz.prog 256 #[.int .i64 r] w fun e w' => e = .returned (.string ⟨[cLet r].toArray⟩) ∧ w' = w := by
 have hr : r = 0 ∨ r = 1 ∨ r = 2 ∨ r = 3 := by omega
 clear h0 h1; rcases hr with rfl | rfl | rfl | rfl
 · have hc : ∀ w, (convert 21 9 (.int .i32 65)).run Tryz.prog w = .ok (.string ⟨[65].toArray⟩) w := fun _ => by kernel_rfl
   go_enter Tryz.func256, Tryz.ntmps256
   go_wp2; go_ret
   exact ⟨rfl, rfl⟩
 · have hc : ∀ w, (convert 21 9 (.int .i32 66)).run Tryz.prog w = .ok (.string ⟨[66].toArray⟩) w := fun _ => by kernel_rfl
   go_enter Tryz.func256, Tryz.ntmps256
   go_wp2; go_ret
   exact ⟨rfl, rfl⟩
 · have hc : ∀ w, (convert 21 9 (.int .i32 67)).run Tryz.prog w = .ok (.string ⟨[67].toArray⟩) w := fun _ => by kernel_rfl
   go_enter Tryz.func256, Tryz.ntmps256
   go_wp2; go_ret
   exact ⟨rfl, rfl⟩
 · have hc : ∀ w, (convert 21 9 (.int .i32 68)).run Tryz.prog w = .ok (.string ⟨[68].toArray⟩) w := fun _ => by kernel_rfl
   go_enter Tryz.func256, Tryz.ntmps256
   go_wp2; go_ret
   exact ⟨rfl, rfl⟩
theorem dd_dig (n : Nat) (h : n < 4) : Go.Lib.decDigits n = [cDig (n : Int)] := by
 have hn : n = 0 ∨ n = 1 ∨ n = 2 ∨ n = 3 := by omega
 rcases hn with rfl | rfl | rfl | rfl <;> decide +kernel
theorem plcText_any (r s : Int) (h0 : 0 ≤ r) (h1 : r < 4) (s0 : 0 ≤ s) (s1 : s < 4) (w : World) : Calls Tryz.prog 257 #[.agg #[.int .i64 r, .int .i64 s]] w fun e w' => e = .returned (.string ⟨[cLet r, 46, cDig s].toArray⟩) ∧ Below w.heap.size w w' := by
 obtain ⟨n, rfl⟩ : ∃ n : Nat, s = n := ⟨s.toNat, by omega⟩; have HI := hide (Tryz.strconv_Itoa_small n (by omega)); have HD := hide (dd_dig n (by omega)); have HR := hide (show 0 ≤ r ∧ r < 4 from ⟨h0, h1⟩); clear h0 h1 s0 s1; obtain ⟨w1, e1, hb1, hs1, X0, X1, -, -⟩ := b2_newCd w (.int .i64 r) (.int .i64 (n : Nat)) 264; have HE1 := hide e1; clear e1 hs1; go_enter Tryz.func257, Tryz.ntmps257
 go_upto_region 1 with (fail)
 rw [HE1.out]; refine wp_region_held_drew (S := fun w' => w'.cell? ⟨w.heap.size, 0, none⟩ = some (.int .i64 r) ∧ w'.cell? ⟨w.heap.size, 1, none⟩ = some (.int .i64 (n : Nat))) (by kernel_rfl) ?_ (fun hHeld => ?_)
 · exact ⟨X0, X1⟩
 refine tk 0 ?_; refine tk 1 ?_; refine tk 4 ?_; refine tk 5 ?_; refine r1 2 (fun K hK => ?_); go_simp; go_at_call 256; (with_reducible refine (regText_any r HR.out.1 HR.out.2 _).mono ?_); rintro e _ ⟨rfl, rfl⟩; (try go_simp); refine go_ hK ⟨X0, X1⟩ (fun hHeld => ?_); refine tk 3 ?_; refine r1 6 (fun K hK => ?_); go_simp; go_at_call 145; refine (HI.out _).mono ?_; rintro e _ ⟨rfl, rfl⟩; rw [HD.out]; (try go_simp); refine go_ hK ⟨X0, X1⟩ (fun hHeld => ?_); refine tk 7 ?_; refine tk 8 ?_; refine wpAnyH_done (by kernel_rfl) ?_ _; go_wp2; go_ret
 refine ⟨cret ?_, below_drewCd hb1⟩; apply ByteArray.ext
 simp [ByteArray.data_append]
theorem freshText_any (w : World) : Calls Tryz.prog 258 #[.agg #[]] w fun e w' => e = .returned (.string ⟨[110, 101, 119].toArray⟩) ∧ Below w.heap.size w w' := by
 go_enter Tryz.func258, Tryz.ntmps258
 go_wp2; go_ret
 exact ⟨rfl, cbal _ _⟩
theorem noneText_any (w : World) : Calls Tryz.prog 259 #[.agg #[]] w fun e w' => e = .returned (.string ⟨[48].toArray⟩) ∧ Below w.heap.size w w' := by
 go_enter Tryz.func259, Tryz.ntmps259
 go_wp2; go_ret
 exact ⟨rfl, cbal _ _⟩
theorem opText_no (k r a s : Int) (h : cRight ⟨k, r, a, s⟩ 4 4 = false) (w : World) : Calls Tryz.prog 176 #[qv k r a s] w fun e w' => e = .returned (.string ⟨(cText ⟨k, r, a, s⟩).toArray⟩) ∧ Below w.heap.size w w' := by
 have H := hide h; have EF := hide (show cText ⟨k, r, a, s⟩ = [63] from (text_no _).2 h); clear h; obtain ⟨w1, e1, hb1, hs1, X⟩ := b4_new w (.int .i64 k) (.int .i64 r) (.int .i64 a) (.int .i64 s) 96; have HE1 := hide e1; obtain ⟨X0, X1, X2, X3⟩ := X.all; clear e1 X; go_enter Tryz.func176, Tryz.ntmps176
 go_upto_region 1 with (fail)
 rw [HE1.out]; go_wp2_with fail
 (with_reducible refine (Right_anyCd k r a s 4 4 _).mono ?_); rintro e w2 ⟨rfl, hb2⟩; rw [H.out]; have hB := bcall hb1 hb2; go_wp2; go_ret
 exact ⟨cret (by rw [EF.out]), hB⟩
theorem opText_1 (r a s : Int) (h : cRight ⟨1, r, a, s⟩ 4 4 = true) (w : World) : Calls Tryz.prog 176 #[qv 1 r a s] w fun e w' => e = .returned (.string ⟨(cText ⟨1, r, a, s⟩).toArray⟩) ∧ Below w.heap.size w w' := by
 have H := hide h; obtain ⟨⟨r0, r1⟩, ⟨a0, a1⟩, ⟨s0, s1⟩, -⟩ := cRight_rng h; have HR := hide (show 0 ≤ r ∧ r < 4 from ⟨r0, r1⟩); have HA := hide (show 0 ≤ a ∧ a < 4 from ⟨a0, a1⟩); have HS := hide (show 0 ≤ s ∧ s < 4 from ⟨s0, s1⟩); have EF := hide (show cText ⟨1, r, a, s⟩ = [cLet r, 61, cLet a, 46, cDig s] by unfold cText; rw [h]; rfl); clear h r0 r1 a0 a1 s0 s1; have hm0 : ∀ w, (method 233 262 (.int .i64 r) "besom/code.text").run Tryz.prog w = .ok (256, (.int .i64 r)) w := fun _ => by kernel_rfl
 have hm1 : ∀ w, (method 233 264 (.agg #[.int .i64 a, .int .i64 s]) "besom/code.text").run Tryz.prog w = .ok (257, (.agg #[.int .i64 a, .int .i64 s])) w := fun _ => by kernel_rfl
 obtain ⟨w1, e1, hb1, hs1, X⟩ := b4_new w (.int .i64 1) (.int .i64 r) (.int .i64 a) (.int .i64 s) 96; have HE1 := hide e1; have HX := hide X; obtain ⟨X0, X1, X2, X3⟩ := X.all; clear e1 X; go_enter Tryz.func176, Tryz.ntmps176
 go_upto_region 1 with (fail)
 rw [HE1.out]; go_wp2_with fail
 (with_reducible refine (Right_anyCd 1 r a s 4 4 _).mono ?_); rintro e w2 ⟨rfl, hb2⟩; rw [H.out]; have HX2 := hide (HX.out.below hb2); have hB := bcall hb1 hb2; clear X0 X1 X2 X3; obtain ⟨X0, X1, X2, X3⟩ := HX2.out.all; go_wp2_with fail
 (with_reducible refine (sides_1 r a s _).mono ?_); rintro e w3 ⟨rfl, hb3⟩; replace hB := bcall hB hb3; clear X0 X1 X2 X3; go_wp2_with fail
 (with_reducible refine (regText_any r HR.out.1 HR.out.2 _).mono ?_); rintro e _ ⟨rfl, rfl⟩; go_wp2_with fail
 (with_reducible refine (plcText_any a s HA.out.1 HA.out.2 HS.out.1 HS.out.2 _).mono ?_); rintro e w6 ⟨rfl, hb6⟩; replace hB := bcall hB hb6; go_wp2; go_ret
 refine ⟨cret ?_, hB⟩; rw [EF.out]; apply ByteArray.ext
 simp [ByteArray.data_append]
theorem opText_2 (r a s : Int) (h : cRight ⟨2, r, a, s⟩ 4 4 = true) (w : World) : Calls Tryz.prog 176 #[qv 2 r a s] w fun e w' => e = .returned (.string ⟨(cText ⟨2, r, a, s⟩).toArray⟩) ∧ Below w.heap.size w w' := by
 have H := hide h; obtain ⟨⟨r0, r1⟩, ⟨a0, a1⟩, ⟨s0, s1⟩, -⟩ := cRight_rng h; have HR := hide (show 0 ≤ r ∧ r < 4 from ⟨r0, r1⟩); have HA := hide (show 0 ≤ a ∧ a < 4 from ⟨a0, a1⟩); have HS := hide (show 0 ≤ s ∧ s < 4 from ⟨s0, s1⟩); have EF := hide (show cText ⟨2, r, a, s⟩ = [cLet a, 46, cDig s, 61, cLet r] by unfold cText; rw [h]; rfl); clear h r0 r1 a0 a1 s0 s1; have hm0 : ∀ w, (method 233 264 (.agg #[.int .i64 a, .int .i64 s]) "besom/code.text").run Tryz.prog w = .ok (257, (.agg #[.int .i64 a, .int .i64 s])) w := fun _ => by kernel_rfl
 have hm1 : ∀ w, (method 233 262 (.int .i64 r) "besom/code.text").run Tryz.prog w = .ok (256, (.int .i64 r)) w := fun _ => by kernel_rfl
 obtain ⟨w1, e1, hb1, hs1, X⟩ := b4_new w (.int .i64 2) (.int .i64 r) (.int .i64 a) (.int .i64 s) 96; have HE1 := hide e1; have HX := hide X; obtain ⟨X0, X1, X2, X3⟩ := X.all; clear e1 X; go_enter Tryz.func176, Tryz.ntmps176
 go_upto_region 1 with (fail)
 rw [HE1.out]; go_wp2_with fail
 (with_reducible refine (Right_anyCd 2 r a s 4 4 _).mono ?_); rintro e w2 ⟨rfl, hb2⟩; rw [H.out]; have HX2 := hide (HX.out.below hb2); have hB := bcall hb1 hb2; clear X0 X1 X2 X3; obtain ⟨X0, X1, X2, X3⟩ := HX2.out.all; go_wp2_with fail
 (with_reducible refine (sides_2 r a s _).mono ?_); rintro e w3 ⟨rfl, hb3⟩; replace hB := bcall hB hb3; clear X0 X1 X2 X3; go_wp2_with fail
 (with_reducible refine (plcText_any a s HA.out.1 HA.out.2 HS.out.1 HS.out.2 _).mono ?_); rintro e w5 ⟨rfl, hb5⟩; replace hB := bcall hB hb5; go_wp2_with fail
 (with_reducible refine (regText_any r HR.out.1 HR.out.2 _).mono ?_); rintro e _ ⟨rfl, rfl⟩; go_wp2; go_ret
 refine ⟨cret ?_, hB⟩; rw [EF.out]; apply ByteArray.ext
 simp [ByteArray.data_append]
theorem opText_3 (r a s : Int) (h : cRight ⟨3, r, a, s⟩ 4 4 = true) (w : World) : Calls Tryz.prog 176 #[qv 3 r a s] w fun e w' => e = .returned (.string ⟨(cText ⟨3, r, a, s⟩).toArray⟩) ∧ Below w.heap.size w w' := by
 have H := hide h; obtain ⟨⟨r0, r1⟩, ⟨a0, a1⟩, ⟨s0, s1⟩, -⟩ := cRight_rng h; have HR := hide (show 0 ≤ r ∧ r < 4 from ⟨r0, r1⟩); have HA := hide (show 0 ≤ a ∧ a < 4 from ⟨a0, a1⟩); have HS := hide (show 0 ≤ s ∧ s < 4 from ⟨s0, s1⟩); have EF := hide (show cText ⟨3, r, a, s⟩ = [cLet r, 61, 110, 101, 119] by unfold cText; rw [h]; rfl); clear h r0 r1 a0 a1 s0 s1; have hm0 : ∀ w, (method 233 262 (.int .i64 r) "besom/code.text").run Tryz.prog w = .ok (256, (.int .i64 r)) w := fun _ => by kernel_rfl
 have hm1 : ∀ w, (method 233 266 (.agg #[]) "besom/code.text").run Tryz.prog w = .ok (258, (.agg #[])) w := fun _ => by kernel_rfl
 obtain ⟨w1, e1, hb1, hs1, X⟩ := b4_new w (.int .i64 3) (.int .i64 r) (.int .i64 a) (.int .i64 s) 96; have HE1 := hide e1; have HX := hide X; obtain ⟨X0, X1, X2, X3⟩ := X.all; clear e1 X; go_enter Tryz.func176, Tryz.ntmps176
 go_upto_region 1 with (fail)
 rw [HE1.out]; go_wp2_with fail
 (with_reducible refine (Right_anyCd 3 r a s 4 4 _).mono ?_); rintro e w2 ⟨rfl, hb2⟩; rw [H.out]; have HX2 := hide (HX.out.below hb2); have hB := bcall hb1 hb2; clear X0 X1 X2 X3; obtain ⟨X0, X1, X2, X3⟩ := HX2.out.all; go_wp2_with fail
 (with_reducible refine (sides_3 r a s _).mono ?_); rintro e w3 ⟨rfl, hb3⟩; replace hB := bcall hB hb3; clear X0 X1 X2 X3; go_wp2_with fail
 (with_reducible refine (regText_any r HR.out.1 HR.out.2 _).mono ?_); rintro e _ ⟨rfl, rfl⟩; go_wp2_with fail
 (with_reducible refine (freshText_any _).mono ?_); rintro e w6 ⟨rfl, hb6⟩; replace hB := bcall hB hb6; go_wp2; go_ret
 refine ⟨cret ?_, hB⟩; rw [EF.out]; apply ByteArray.ext
 simp [ByteArray.data_append]
theorem opText_4 (r a s : Int) (h : cRight ⟨4, r, a, s⟩ 4 4 = true) (w : World) : Calls Tryz.prog 176 #[qv 4 r a s] w fun e w' => e = .returned (.string ⟨(cText ⟨4, r, a, s⟩).toArray⟩) ∧ Below w.heap.size w w' := by
 have H := hide h; obtain ⟨⟨r0, r1⟩, ⟨a0, a1⟩, ⟨s0, s1⟩, -⟩ := cRight_rng h; have HR := hide (show 0 ≤ r ∧ r < 4 from ⟨r0, r1⟩); have HA := hide (show 0 ≤ a ∧ a < 4 from ⟨a0, a1⟩); have HS := hide (show 0 ≤ s ∧ s < 4 from ⟨s0, s1⟩); have EF := hide (show cText ⟨4, r, a, s⟩ = [cLet r, 61, cLet a] by unfold cText; rw [h]; rfl); clear h r0 r1 a0 a1 s0 s1; have hm0 : ∀ w, (method 233 262 (.int .i64 r) "besom/code.text").run Tryz.prog w = .ok (256, (.int .i64 r)) w := fun _ => by kernel_rfl
 have hm1 : ∀ w, (method 233 262 (.int .i64 a) "besom/code.text").run Tryz.prog w = .ok (256, (.int .i64 a)) w := fun _ => by kernel_rfl
 obtain ⟨w1, e1, hb1, hs1, X⟩ := b4_new w (.int .i64 4) (.int .i64 r) (.int .i64 a) (.int .i64 s) 96; have HE1 := hide e1; have HX := hide X; obtain ⟨X0, X1, X2, X3⟩ := X.all; clear e1 X; go_enter Tryz.func176, Tryz.ntmps176
 go_upto_region 1 with (fail)
 rw [HE1.out]; go_wp2_with fail
 (with_reducible refine (Right_anyCd 4 r a s 4 4 _).mono ?_); rintro e w2 ⟨rfl, hb2⟩; rw [H.out]; have HX2 := hide (HX.out.below hb2); have hB := bcall hb1 hb2; clear X0 X1 X2 X3; obtain ⟨X0, X1, X2, X3⟩ := HX2.out.all; go_wp2_with fail
 (with_reducible refine (sides_4 r a s _).mono ?_); rintro e w3 ⟨rfl, hb3⟩; replace hB := bcall hB hb3; clear X0 X1 X2 X3; go_wp2_with fail
 (with_reducible refine (regText_any r HR.out.1 HR.out.2 _).mono ?_); rintro e _ ⟨rfl, rfl⟩; go_wp2_with fail
 (with_reducible refine (regText_any a HA.out.1 HA.out.2 _).mono ?_); rintro e _ ⟨rfl, rfl⟩; go_wp2; go_ret
 refine ⟨cret ?_, hB⟩; rw [EF.out]; apply ByteArray.ext
 simp [ByteArray.data_append]
theorem opText_5 (r a s : Int) (h : cRight ⟨5, r, a, s⟩ 4 4 = true) (w : World) : Calls Tryz.prog 176 #[qv 5 r a s] w fun e w' => e = .returned (.string ⟨(cText ⟨5, r, a, s⟩).toArray⟩) ∧ Below w.heap.size w w' := by
 have H := hide h; obtain ⟨⟨r0, r1⟩, ⟨a0, a1⟩, ⟨s0, s1⟩, -⟩ := cRight_rng h; have HR := hide (show 0 ≤ r ∧ r < 4 from ⟨r0, r1⟩); have HA := hide (show 0 ≤ a ∧ a < 4 from ⟨a0, a1⟩); have HS := hide (show 0 ≤ s ∧ s < 4 from ⟨s0, s1⟩); have EF := hide (show cText ⟨5, r, a, s⟩ = [cLet r, 61, 48] by unfold cText; rw [h]; rfl); clear h r0 r1 a0 a1 s0 s1; have hm0 : ∀ w, (method 233 262 (.int .i64 r) "besom/code.text").run Tryz.prog w = .ok (256, (.int .i64 r)) w := fun _ => by kernel_rfl
 have hm1 : ∀ w, (method 233 267 (.agg #[]) "besom/code.text").run Tryz.prog w = .ok (259, (.agg #[])) w := fun _ => by kernel_rfl
 obtain ⟨w1, e1, hb1, hs1, X⟩ := b4_new w (.int .i64 5) (.int .i64 r) (.int .i64 a) (.int .i64 s) 96; have HE1 := hide e1; have HX := hide X; obtain ⟨X0, X1, X2, X3⟩ := X.all; clear e1 X; go_enter Tryz.func176, Tryz.ntmps176
 go_upto_region 1 with (fail)
 rw [HE1.out]; go_wp2_with fail
 (with_reducible refine (Right_anyCd 5 r a s 4 4 _).mono ?_); rintro e w2 ⟨rfl, hb2⟩; rw [H.out]; have HX2 := hide (HX.out.below hb2); have hB := bcall hb1 hb2; clear X0 X1 X2 X3; obtain ⟨X0, X1, X2, X3⟩ := HX2.out.all; go_wp2_with fail
 (with_reducible refine (sides_5 r a s _).mono ?_); rintro e w3 ⟨rfl, hb3⟩; replace hB := bcall hB hb3; clear X0 X1 X2 X3; go_wp2_with fail
 (with_reducible refine (regText_any r HR.out.1 HR.out.2 _).mono ?_); rintro e _ ⟨rfl, rfl⟩; go_wp2_with fail
 (with_reducible refine (noneText_any _).mono ?_); rintro e w6 ⟨rfl, hb6⟩; replace hB := bcall hB hb6; go_wp2; go_ret
 refine ⟨cret ?_, hB⟩; rw [EF.out]; apply ByteArray.ext
 simp [ByteArray.data_append]
theorem opText_any (k r a s : Int) (w : World) : Calls Tryz.prog 176 #[qv k r a s] w fun e w' => e = .returned (.string ⟨(cText ⟨k, r, a, s⟩).toArray⟩) ∧ Below w.heap.size w w' := by
 cases h : cRight ⟨k, r, a, s⟩ 4 4
 · exact opText_no k r a s h w
 · obtain ⟨-, -, -, hk⟩ := cRight_rng h
   rcases hk with rfl | rfl | rfl | rfl | rfl
   · exact opText_1 r a s h w
   · exact opText_2 r a s h w
   · exact opText_3 r a s h w
   · exact opText_4 r a s h w
   · exact opText_5 r a s h w
theorem Text_anyCd (k r a s : Int) (w : World) : Calls Tryz.prog 146 #[qv k r a s] w fun e w' => e = .returned (.string ⟨(cText ⟨k, r, a, s⟩).toArray⟩) ∧ Below w.heap.size w w' := by
 obtain ⟨w1, e1, hb1, hs1, X⟩ := b4_new w (.int .i64 k) (.int .i64 r) (.int .i64 a) (.int .i64 s) 96; have HE1 := hide e1; obtain ⟨X0, X1, X2, X3⟩ := X.all; clear e1 X; go_enter Tryz.func146, Tryz.ntmps146
 go_upto_region 1 with (fail)
 rw [HE1.out]; go_wp2_with fail
 (with_reducible refine (opText_any k r a s _).mono ?_); rintro e w2 ⟨rfl, hb2⟩; go_wp2; go_ret
 exact ⟨rfl, bcall hb1 hb2⟩
end Go.Proofs.YtjbaiibbgplljaaGreatDoor
namespace Go.Proofs.YtjbaiibbgplljaaGreatDoor
open Go.RowKit Go.Shelf Go.Proofs
def sdV : Sd → Value
 | .reg x => regV x
 | .plc x y => plcV x y
 | .fre => freV
 | .non => nonV
 | .bad => .nilIface
theorem ba_list (s : ByteArray) : s.toList = s.data.toList := ByteArray.toList_eq s
theorem ba_one {s : ByteArray} {b : UInt8} (h : s.data.toList = [b]) : s.size = 1 ∧ ∀ k : 0 < s.size, ((s[0]'k).toNat : Int) = b.toNat := by
 obtain ⟨⟨l⟩⟩ := s; simp only at h
 subst h; exact ⟨rfl, fun _ => rfl⟩
theorem ba_three {s : ByteArray} {a m b : UInt8} (h : s.data.toList = [a, m, b]) : s.size = 3 ∧ (∀ k : 0 < s.size, ((s[0]'k).toNat : Int) = a.toNat) ∧ (∀ k : 1 < s.size, ((s[1]'k).toNat : Int) = m.toNat) ∧ ∀ k : 2 < s.size, ((s[2]'k).toNat : Int) = b.toNat := by
 obtain ⟨⟨l⟩⟩ := s; simp only at h
 subst h; exact ⟨rfl, fun _ => rfl, fun _ => rfl, fun _ => rfl⟩
theorem ba_len (s : ByteArray) : s.data.toList.length = s.size := by rw [Array.length_toList]; rfl
theorem u8_rng (b : UInt8) : 0 ≤ (b.toNat : Int) ∧ (b.toNat : Int) ≤ 255 := by have := b.toNat_lt; omega
theorem side_new (s : ByteArray) (w : World) (h : s.data.toList = [110, 101, 119]) : Calls Tryz.prog 207 #[.string s] w fun e w' => e = .returned (freV) ∧ Below w.heap.size w w' := by
 have q1 : (s.toList == [110, 101, 119]) = true := by rw [ba_list, h]; decide
 clear h; go_enter Tryz.func207, Tryz.ntmps207
 go_wp2; go_ret
 exact ⟨rfl, Below.refl _ _⟩
theorem side_none (s : ByteArray) (w : World) (h : s.data.toList = [48]) : Calls Tryz.prog 207 #[.string s] w fun e w' => e = .returned (nonV) ∧ Below w.heap.size w w' := by
 have q1 : (s.toList == [110, 101, 119]) = false := by rw [ba_list, h]; decide
 have q2 : (s.toList == [48]) = true := by rw [ba_list, h]; decide
 clear h; go_enter Tryz.func207, Tryz.ntmps207
 go_wp2; go_ret
 exact ⟨rfl, Below.refl _ _⟩
theorem side_one (s : ByteArray) (w : World) (b : UInt8) (h : s.data.toList = [b]) (hb : b ≠ 48) : Calls Tryz.prog 207 #[.string s] w fun e w' => e = .returned (regV ((b.toNat : Int) - 65)) ∧ Below w.heap.size w w' := by
 have q1 : (s.toList == [110, 101, 119]) = false := by rw [ba_list, h, beq_eq_false_iff_ne]; simp
 have q2 : (s.toList == [48]) = false := by rw [ba_list, h, beq_eq_false_iff_ne]; simpa using hb
 obtain ⟨h1, h2⟩ := ba_one h; have q3 : ((s.size : Int) == 1) = true := by rw [beq_iff_eq]; omega
 have q4 : 0 < s.size := by omega
 obtain ⟨x, hx⟩ : ∃ x : Int, (b.toNat : Int) = x := ⟨_, rfl⟩; have hr := u8_rng b; rw [hx] at h2 hr ⊢; obtain ⟨r0, r1⟩ := hr; clear h hb h1 hx; go_enter Tryz.func207, Tryz.ntmps207
 go_wp2; go_ret
 exact ⟨rfl, Below.refl _ _⟩
theorem side_three (s : ByteArray) (w : World) (a b : UInt8) (h : s.data.toList = [a, 46, b]) : Calls Tryz.prog 207 #[.string s] w fun e w' => e = .returned (plcV ((a.toNat : Int) - 65) ((b.toNat : Int) - 48)) ∧ Below w.heap.size w w' := by
 have q1 : (s.toList == [110, 101, 119]) = false := by rw [ba_list, h, beq_eq_false_iff_ne]; simp
 have q2 : (s.toList == [48]) = false := by rw [ba_list, h, beq_eq_false_iff_ne]; simp
 obtain ⟨h1, h2, h3, h4⟩ := ba_three h; have q3 : ((s.size : Int) == 1) = false := by rw [beq_eq_false_iff_ne]; omega
 have q4 : ((s.size : Int) == 3) = true := by rw [beq_iff_eq]; omega
 have q5 : 0 < s.size := by omega
 have q6 : 1 < s.size := by omega
 have q7 : 2 < s.size := by omega
 have q8 : (2 : Int) < s.size := by omega
 obtain ⟨x, hx⟩ : ∃ x : Int, (a.toNat : Int) = x := ⟨_, rfl⟩; obtain ⟨y, hy⟩ : ∃ y : Int, (b.toNat : Int) = y := ⟨_, rfl⟩; have hr := u8_rng a; have hr2 := u8_rng b; rw [hx] at h2 hr ⊢; rw [hy] at h4 hr2 ⊢; obtain ⟨r0, r1⟩ := hr; obtain ⟨r2, r3⟩ := hr2; have h3 : ∀ k : 1 < s.size, ((s[1]'k).toNat : Int) = 46 := fun k => by rw [h3 k]; rfl
 have v1 : IntKind.i64.wrap x = x := by simp [IntKind.wrap, IntKind.bits, IntKind.signed]; omega
 have v2 : IntKind.i64.wrap y = y := by simp [IntKind.wrap, IntKind.bits, IntKind.signed]; omega
 have v3 : IntKind.i64.wrap (x - 65) = x - 65 := by simp [IntKind.wrap, IntKind.bits, IntKind.signed]; omega
 have v4 : IntKind.i64.wrap (y - 48) = y - 48 := by simp [IntKind.wrap, IntKind.bits, IntKind.signed]; omega
 clear h h1 hx hy; go_enter Tryz.func207, Tryz.ntmps207
 go_wp2; refine wp_region_held_drew (S := fun _ => True) (by kernel_rfl) ?_ (fun hHeld => ?_)
 · exact trivial
 refine tk 0 ?_; refine tk 1 ?_; refine tk 2 ?_; refine tk 3 ?_; refine tk 4 ?_; refine tk 5 ?_; refine tk 6 ?_; refine tk 7 ?_; refine tk 8 ?_; refine tk 9 ?_; refine tk 10 ?_; refine wpAnyH_done (by kernel_rfl) ?_ _; go_wp2; go_ret
 exact ⟨rfl, below_drewCd (Below.refl _ _)⟩
theorem side_mid (s : ByteArray) (w : World) (a m b : UInt8) (h : s.data.toList = [a, m, b]) (hm : m ≠ 46) (hn : s.data.toList ≠ [110, 101, 119]) : Calls Tryz.prog 207 #[.string s] w fun e w' => e = .returned (.nilIface) ∧ Below w.heap.size w w' := by
 have q1 : (s.toList == [110, 101, 119]) = false := by rw [ba_list, beq_eq_false_iff_ne]; exact hn
 have q2 : (s.toList == [48]) = false := by rw [ba_list, h, beq_eq_false_iff_ne]; simp
 obtain ⟨h1, h2, h3, h4⟩ := ba_three h; have q3 : ((s.size : Int) == 1) = false := by rw [beq_eq_false_iff_ne]; omega
 have q4 : ((s.size : Int) == 3) = true := by rw [beq_iff_eq]; omega
 have q6 : 1 < s.size := by omega
 obtain ⟨x, hx⟩ : ∃ x : Int, (m.toNat : Int) = x := ⟨_, rfl⟩; have hr := u8_rng m; rw [hx] at h3 hr; obtain ⟨r0, r1⟩ := hr; have q5 : (x == 46) = false := by rw [beq_eq_false_iff_ne]; intro e; apply hm; apply UInt8.toNat_inj.1; have : (46 : UInt8).toNat = 46 := rfl; omega
 clear h h1 hx h2 h4 hm hn; go_enter Tryz.func207, Tryz.ntmps207
 go_wp2; go_ret
 exact ⟨rfl, Below.refl _ _⟩
theorem side_long (s : ByteArray) (w : World) (h1 : s.size ≠ 1) (h3 : s.size ≠ 3) : Calls Tryz.prog 207 #[.string s] w fun e w' => e = .returned (.nilIface) ∧ Below w.heap.size w w' := by
 have q1 : (s.toList == [110, 101, 119]) = false := by rw [ba_list, beq_eq_false_iff_ne]; intro e; have := ba_len s; rw [e] at this; simp at this; omega
 have q2 : (s.toList == [48]) = false := by rw [ba_list, beq_eq_false_iff_ne]; intro e; have := ba_len s; rw [e] at this; simp at this; omega
 have q3 : ((s.size : Int) == 1) = false := by rw [beq_eq_false_iff_ne]; omega
 have q4 : ((s.size : Int) == 3) = false := by rw [beq_eq_false_iff_ne]; omega
 clear h1 h3; go_enter Tryz.func207, Tryz.ntmps207
 go_wp2; go_ret
 exact ⟨rfl, Below.refl _ _⟩
theorem side_any (s : ByteArray) (w : World) : Calls Tryz.prog 207 #[.string s] w fun e w' => e = .returned (sdV (sideF s.data.toList)) ∧ Below w.heap.size w w' := by
 have hl := ba_len s; obtain ⟨t, ht⟩ : ∃ t, s.data.toList = t := ⟨_, rfl⟩; rw [ht] at hl ⊢; rcases t with _ | ⟨a, _ | ⟨m, _ | ⟨b, _ | ⟨c, t⟩⟩⟩⟩
 · exact side_long s w (by simp at hl; omega) (by simp at hl; omega)
 · by_cases hb : a = 48
   · subst hb; exact side_none s w ht
   · have e : sideF [a] = .reg ((a.toNat : Int) - 65) := by
      unfold sideF; rw [if_neg (by simp), if_neg (by simpa using hb)]
     rw [e]; exact side_one s w a ht hb
 · rw [show sideF [a, m] = .bad by simp [sideF]]; exact side_long s w (by simp at hl; omega) (by simp at hl; omega)
 · by_cases hn : [a, m, b] = [110, 101, 119]
   · rw [hn] at ht ⊢; exact side_new s w ht
   · by_cases hm : m = 46
     · subst hm
       have e : sideF [a, 46, b] = .plc ((a.toNat : Int) - 65) ((b.toNat : Int) - 48) := by
        unfold sideF; rw [if_neg hn, if_neg (by simp)]; simp
       rw [e]; exact side_three s w a b ht
     · have e : sideF [a, m, b] = .bad := by
        unfold sideF; rw [if_neg hn, if_neg (by simp)]; simp [hm]
       rw [e]; exact side_mid s w a m b ht hm (by rw [ht]; exact hn)
 · rw [show sideF (a :: m :: b :: c :: t) = .bad by simp [sideF]]; exact side_long s w (by simp at hl; omega) (by simp at hl; omega)
open Go.Joins
theorem cdrew (W : World) (a : Addr) : W.drew.cell? a = W.cell? a := rfl
theorem c_set {n : Nat} {a w : World} (h : Below n a w) (b o : Nat) (hb : n ≤ b) (v : Value) : Below n a (w.setCell ⟨b, o, none⟩ v) := h.setCell (p := ⟨b, o, none⟩) hb v
theorem c_alloc {n : Nat} {a w : World} (h : Below n a w) (hn : n ≤ w.heap.size) (o : Obj) : Below n a (w.alloc o) := h.alloc hn o
theorem cset {w : World} {b g o j : Nat} {v x : Value} (h : w.cell? ⟨b, j, none⟩ = some x) (hne : b ≠ g) : (w.setCell ⟨g, o, none⟩ v).cell? ⟨b, j, none⟩ = some x := (World.cell?_of_block (Below.heap_setCell w ⟨g, o, none⟩ v b hne)).trans h
theorem cset4 {w : World} {b g j : Nat} {x v0 v1 v2 v3 : Value} (h : w.cell? ⟨b, j, none⟩ = some x) (hne : b ≠ g) : ((((w.setCell ⟨g, 0, none⟩ v0).setCell ⟨g, 1, none⟩ v1).setCell ⟨g, 2, none⟩ v2).setCell ⟨g, 3, none⟩ v3).drew.cell? ⟨b, j, none⟩ = some x := by
 rw [cdrew]; exact cset (cset (cset (cset h hne) hne) hne) hne
def PanC (e : Ending) : Prop := ∃ u v, e = .panicked [{ v := .iface u v, recovered := false }]
abbrev taErr (i d t : Value) : Obj := .cells #[i, d, t, .string .empty] 308
theorem as_reg_plc (x : Int) (w : World) : (Instr.typeAssert (regV x) 233 264 true).run Tryz.prog w = .ok (.tuple #[.agg #[.int .i64 0, .int .i64 0], .bool false]) w := by kernel_rfl
theorem as_reg_fre (x : Int) (w : World) : (Instr.typeAssert (regV x) 233 266 true).run Tryz.prog w = .ok (.tuple #[.agg #[], .bool false]) w := by kernel_rfl
theorem as_reg_non (x : Int) (w : World) : (Instr.typeAssert (regV x) 233 267 true).run Tryz.prog w = .ok (.tuple #[.agg #[], .bool false]) w := by kernel_rfl
theorem as_reg_reg (x : Int) (w : World) : (Instr.typeAssert (regV x) 233 262 false).run Tryz.prog w = .ok (.int .i64 x) w := by kernel_rfl
theorem as_plc_plc (x y : Int) (w : World) : (Instr.typeAssert (plcV x y) 233 264 true).run Tryz.prog w = .ok (.tuple #[.agg #[.int .i64 x, .int .i64 y], .bool true]) w := by kernel_rfl
theorem as_plc_reg (x y : Int) (w : World) : (Instr.typeAssert (plcV x y) 233 262 false).run Tryz.prog w = .halt (.panic (.iface 15 (.pointer (some ⟨w.heap.size, 0, none⟩)))) (w.alloc (taErr (typeHandle Tryz.prog 233) (typeHandle Tryz.prog 264) (typeHandle Tryz.prog 262))) := by kernel_rfl
theorem as_fre_plc  (w : World) : (Instr.typeAssert (freV) 233 264 true).run Tryz.prog w = .ok (.tuple #[.agg #[.int .i64 0, .int .i64 0], .bool false]) w := by kernel_rfl
theorem as_fre_fre  (w : World) : (Instr.typeAssert (freV) 233 266 true).run Tryz.prog w = .ok (.tuple #[.agg #[], .bool true]) w := by kernel_rfl
theorem as_fre_reg  (w : World) : (Instr.typeAssert (freV) 233 262 false).run Tryz.prog w = .halt (.panic (.iface 15 (.pointer (some ⟨w.heap.size, 0, none⟩)))) (w.alloc (taErr (typeHandle Tryz.prog 233) (typeHandle Tryz.prog 266) (typeHandle Tryz.prog 262))) := by kernel_rfl
theorem as_non_plc  (w : World) : (Instr.typeAssert (nonV) 233 264 true).run Tryz.prog w = .ok (.tuple #[.agg #[.int .i64 0, .int .i64 0], .bool false]) w := by kernel_rfl
theorem as_non_fre  (w : World) : (Instr.typeAssert (nonV) 233 266 true).run Tryz.prog w = .ok (.tuple #[.agg #[], .bool false]) w := by kernel_rfl
theorem as_non_non  (w : World) : (Instr.typeAssert (nonV) 233 267 true).run Tryz.prog w = .ok (.tuple #[.agg #[], .bool true]) w := by kernel_rfl
theorem as_non_reg  (w : World) : (Instr.typeAssert (nonV) 233 262 false).run Tryz.prog w = .halt (.panic (.iface 15 (.pointer (some ⟨w.heap.size, 0, none⟩)))) (w.alloc (taErr (typeHandle Tryz.prog 233) (typeHandle Tryz.prog 267) (typeHandle Tryz.prog 262))) := by kernel_rfl
theorem as_bad_plc  (w : World) : (Instr.typeAssert (.nilIface) 233 264 true).run Tryz.prog w = .ok (.tuple #[.agg #[.int .i64 0, .int .i64 0], .bool false]) w := by kernel_rfl
theorem as_bad_fre  (w : World) : (Instr.typeAssert (.nilIface) 233 266 true).run Tryz.prog w = .ok (.tuple #[.agg #[], .bool false]) w := by kernel_rfl
theorem as_bad_non  (w : World) : (Instr.typeAssert (.nilIface) 233 267 true).run Tryz.prog w = .ok (.tuple #[.agg #[], .bool false]) w := by kernel_rfl
theorem as_bad_reg  (w : World) : (Instr.typeAssert (.nilIface) 233 262 false).run Tryz.prog w = .halt (.panic (.iface 15 (.pointer (some ⟨w.heap.size, 0, none⟩)))) (w.alloc (taErr (typeHandle Tryz.prog 233) (.pointer none) (typeHandle Tryz.prog 262))) := by kernel_rfl
theorem opOf_fre (v : Value) (w : World) : Calls Tryz.prog 206 #[freV, v] w fun e w' => PanC e ∧ Below w.heap.size w w' := by
 have f1 := as_fre_plc; have f2 := as_fre_reg; obtain ⟨w1, e1, hb1, hs1, X⟩ := b4_new w (.int .i64 0) (.int .i64 0) (.int .i64 0) (.int .i64 0) 96; have HE1 := hide e1; clear e1 X; go_enter Tryz.func206, Tryz.ntmps206
 go_upto_region 1 with (fail)
 rw [HE1.out]; go_wp2; exact ⟨rfl, ⟨_, _, rfl⟩, bcall (bcall hb1 (cbal _ _)) (cbal _ _)⟩
theorem opOf_non (v : Value) (w : World) : Calls Tryz.prog 206 #[nonV, v] w fun e w' => PanC e ∧ Below w.heap.size w w' := by
 have f1 := as_non_plc; have f2 := as_non_reg; obtain ⟨w1, e1, hb1, hs1, X⟩ := b4_new w (.int .i64 0) (.int .i64 0) (.int .i64 0) (.int .i64 0) 96; have HE1 := hide e1; clear e1 X; go_enter Tryz.func206, Tryz.ntmps206
 go_upto_region 1 with (fail)
 rw [HE1.out]; go_wp2; exact ⟨rfl, ⟨_, _, rfl⟩, bcall (bcall hb1 (cbal _ _)) (cbal _ _)⟩
theorem opOf_bad (v : Value) (w : World) : Calls Tryz.prog 206 #[.nilIface, v] w fun e w' => PanC e ∧ Below w.heap.size w w' := by
 have f1 := as_bad_plc; have f2 := as_bad_reg; obtain ⟨w1, e1, hb1, hs1, X⟩ := b4_new w (.int .i64 0) (.int .i64 0) (.int .i64 0) (.int .i64 0) 96; have HE1 := hide e1; clear e1 X; go_enter Tryz.func206, Tryz.ntmps206
 go_upto_region 1 with (fail)
 rw [HE1.out]; go_wp2; exact ⟨rfl, ⟨_, _, rfl⟩, bcall (bcall hb1 (cbal _ _)) (cbal _ _)⟩
theorem opOf_plc_reg (a s r : Int) (w : World) : Calls Tryz.prog 206 #[plcV a s, regV r] w fun e w' => e = .returned (qv 2 r a s) ∧ Below w.heap.size w w' := by
 have f0 := as_plc_plc a s; have f1 := as_reg_reg r; obtain ⟨w1, e1, hb1, hs1, X⟩ := b4_new w (.int .i64 0) (.int .i64 0) (.int .i64 0) (.int .i64 0) 96; obtain ⟨w2, e2, hb2, hs2, Y0, Y1, -, -⟩ := b2_newCd w1 (.int .i64 a) (.int .i64 s) 264; have HE1 := hide e1; have HE2 := hide e2; have HX := hide (X.below hb2); have hB := bcall hb1 hb2; rw [hs1] at Y0 Y1; have HS2 := hide (show w2.heap.size = w.heap.size + 2 by omega); clear e1 e2 X hb1 hb2 hs1 hs2; go_enter Tryz.func206, Tryz.ntmps206
 go_upto_region 2 with (fail)
 rw [HE1.out, HE2.out]; go_wp2; obtain ⟨X0, X1, X2, X3⟩ := HX.out.all; obtain ⟨X4, X5, X6, X7⟩ := HX.out.free; refine wp_region_held_drew (S := fun w' => w'.cell? ⟨w.heap.size + 1, 0, none⟩ = some (.int .i64 a) ∧ w'.cell? ⟨w.heap.size + 1, 1, none⟩ = some (.int .i64 s)) (by kernel_rfl) ?_ (fun hHeld => ?_)
 · exact (by first | (with_reducible exact ⟨Y0, Y1⟩) | (with_reducible exact ⟨cset4 Y0 (by omega), cset4 Y1 (by omega)⟩) | exact ⟨Y0, Y1⟩)
 refine tk 0 ?_; refine tk 1 ?_; refine tk 2 ?_; refine tk 3 ?_; refine tk 4 ?_; refine tk 5 ?_; refine tk 6 ?_; refine r1 7 (fun K hK => ?_); go_simp; (try go_simp); refine go_ hK (by first | (with_reducible exact ⟨Y0, Y1⟩) | (with_reducible exact ⟨cset4 Y0 (by omega), cset4 Y1 (by omega)⟩) | exact ⟨Y0, Y1⟩) (fun hHeld => ?_); refine wpAnyH_done (by kernel_rfl) ?_ _; go_wp2; refine bodyPost_ret (v := qv 2 r a s) (by simp [results, Tryz.results206, go_sem, X0, X1, X2, X3]) rfl ⟨rfl, ?_⟩; repeat (first | (with_reducible exact hB) | (with_reducible refine c_set ?_ _ _ (by omega) _) | (with_reducible refine below_drewCd ?_))
theorem opOf_plc_plc (a s : Int) (x y : Int) (w : World) : Calls Tryz.prog 206 #[plcV a s, plcV x y] w fun e w' => PanC e ∧ Below w.heap.size w w' := by
 have f0 := as_plc_plc a s; have f1 := as_plc_reg x y; obtain ⟨w1, e1, hb1, hs1, X⟩ := b4_new w (.int .i64 0) (.int .i64 0) (.int .i64 0) (.int .i64 0) 96; obtain ⟨w2, e2, hb2, hs2, Y0, Y1, -, -⟩ := b2_newCd w1 (.int .i64 a) (.int .i64 s) 264; have HE1 := hide e1; have HE2 := hide e2; have HX := hide (X.below hb2); have hB := bcall hb1 hb2; rw [hs1] at Y0 Y1; have HS2 := hide (show w2.heap.size = w.heap.size + 2 by omega); clear e1 e2 X hb1 hb2 hs1 hs2; go_enter Tryz.func206, Tryz.ntmps206
 go_upto_region 2 with (fail)
 rw [HE1.out, HE2.out]; go_wp2; refine wp_region_held_drew (S := fun w' => w'.cell? ⟨w.heap.size + 1, 0, none⟩ = some (.int .i64 a) ∧ w'.cell? ⟨w.heap.size + 1, 1, none⟩ = some (.int .i64 s)) (by kernel_rfl) ?_ (fun hHeld => ?_)
 · exact (by first | (with_reducible exact ⟨Y0, Y1⟩) | (with_reducible exact ⟨cset4 Y0 (by omega), cset4 Y1 (by omega)⟩) | exact ⟨Y0, Y1⟩)
 refine tk 0 ?_; refine tk 2 ?_; refine tk 3 ?_; refine tk 4 ?_; refine tk 5 ?_; refine r1 1 (fun K hK => ?_); clear hK; go_simp; refine ⟨rfl, ⟨_, _, rfl⟩, ?_⟩; have HS := HS2.out; repeat (first | (with_reducible exact hB) | (with_reducible refine c_alloc ?_ (by omega) _) | (with_reducible refine below_drewCd ?_))
theorem opOf_plc_fre (a s : Int)  (w : World) : Calls Tryz.prog 206 #[plcV a s, freV] w fun e w' => PanC e ∧ Below w.heap.size w w' := by
 have f0 := as_plc_plc a s; have f1 := as_fre_reg ; obtain ⟨w1, e1, hb1, hs1, X⟩ := b4_new w (.int .i64 0) (.int .i64 0) (.int .i64 0) (.int .i64 0) 96; obtain ⟨w2, e2, hb2, hs2, Y0, Y1, -, -⟩ := b2_newCd w1 (.int .i64 a) (.int .i64 s) 264; have HE1 := hide e1; have HE2 := hide e2; have HX := hide (X.below hb2); have hB := bcall hb1 hb2; rw [hs1] at Y0 Y1; have HS2 := hide (show w2.heap.size = w.heap.size + 2 by omega); clear e1 e2 X hb1 hb2 hs1 hs2; go_enter Tryz.func206, Tryz.ntmps206
 go_upto_region 2 with (fail)
 rw [HE1.out, HE2.out]; go_wp2; refine wp_region_held_drew (S := fun w' => w'.cell? ⟨w.heap.size + 1, 0, none⟩ = some (.int .i64 a) ∧ w'.cell? ⟨w.heap.size + 1, 1, none⟩ = some (.int .i64 s)) (by kernel_rfl) ?_ (fun hHeld => ?_)
 · exact (by first | (with_reducible exact ⟨Y0, Y1⟩) | (with_reducible exact ⟨cset4 Y0 (by omega), cset4 Y1 (by omega)⟩) | exact ⟨Y0, Y1⟩)
 refine tk 0 ?_; refine tk 2 ?_; refine tk 3 ?_; refine tk 4 ?_; refine tk 5 ?_; refine r1 1 (fun K hK => ?_); clear hK; go_simp; refine ⟨rfl, ⟨_, _, rfl⟩, ?_⟩; have HS := HS2.out; repeat (first | (with_reducible exact hB) | (with_reducible refine c_alloc ?_ (by omega) _) | (with_reducible refine below_drewCd ?_))
theorem opOf_plc_non (a s : Int)  (w : World) : Calls Tryz.prog 206 #[plcV a s, nonV] w fun e w' => PanC e ∧ Below w.heap.size w w' := by
 have f0 := as_plc_plc a s; have f1 := as_non_reg ; obtain ⟨w1, e1, hb1, hs1, X⟩ := b4_new w (.int .i64 0) (.int .i64 0) (.int .i64 0) (.int .i64 0) 96; obtain ⟨w2, e2, hb2, hs2, Y0, Y1, -, -⟩ := b2_newCd w1 (.int .i64 a) (.int .i64 s) 264; have HE1 := hide e1; have HE2 := hide e2; have HX := hide (X.below hb2); have hB := bcall hb1 hb2; rw [hs1] at Y0 Y1; have HS2 := hide (show w2.heap.size = w.heap.size + 2 by omega); clear e1 e2 X hb1 hb2 hs1 hs2; go_enter Tryz.func206, Tryz.ntmps206
 go_upto_region 2 with (fail)
 rw [HE1.out, HE2.out]; go_wp2; refine wp_region_held_drew (S := fun w' => w'.cell? ⟨w.heap.size + 1, 0, none⟩ = some (.int .i64 a) ∧ w'.cell? ⟨w.heap.size + 1, 1, none⟩ = some (.int .i64 s)) (by kernel_rfl) ?_ (fun hHeld => ?_)
 · exact (by first | (with_reducible exact ⟨Y0, Y1⟩) | (with_reducible exact ⟨cset4 Y0 (by omega), cset4 Y1 (by omega)⟩) | exact ⟨Y0, Y1⟩)
 refine tk 0 ?_; refine tk 2 ?_; refine tk 3 ?_; refine tk 4 ?_; refine tk 5 ?_; refine r1 1 (fun K hK => ?_); clear hK; go_simp; refine ⟨rfl, ⟨_, _, rfl⟩, ?_⟩; have HS := HS2.out; repeat (first | (with_reducible exact hB) | (with_reducible refine c_alloc ?_ (by omega) _) | (with_reducible refine below_drewCd ?_))
theorem opOf_plc_bad (a s : Int)  (w : World) : Calls Tryz.prog 206 #[plcV a s, .nilIface] w fun e w' => PanC e ∧ Below w.heap.size w w' := by
 have f0 := as_plc_plc a s; have f1 := as_bad_reg ; obtain ⟨w1, e1, hb1, hs1, X⟩ := b4_new w (.int .i64 0) (.int .i64 0) (.int .i64 0) (.int .i64 0) 96; obtain ⟨w2, e2, hb2, hs2, Y0, Y1, -, -⟩ := b2_newCd w1 (.int .i64 a) (.int .i64 s) 264; have HE1 := hide e1; have HE2 := hide e2; have HX := hide (X.below hb2); have hB := bcall hb1 hb2; rw [hs1] at Y0 Y1; have HS2 := hide (show w2.heap.size = w.heap.size + 2 by omega); clear e1 e2 X hb1 hb2 hs1 hs2; go_enter Tryz.func206, Tryz.ntmps206
 go_upto_region 2 with (fail)
 rw [HE1.out, HE2.out]; go_wp2; refine wp_region_held_drew (S := fun w' => w'.cell? ⟨w.heap.size + 1, 0, none⟩ = some (.int .i64 a) ∧ w'.cell? ⟨w.heap.size + 1, 1, none⟩ = some (.int .i64 s)) (by kernel_rfl) ?_ (fun hHeld => ?_)
 · exact (by first | (with_reducible exact ⟨Y0, Y1⟩) | (with_reducible exact ⟨cset4 Y0 (by omega), cset4 Y1 (by omega)⟩) | exact ⟨Y0, Y1⟩)
 refine tk 0 ?_; refine tk 2 ?_; refine tk 3 ?_; refine tk 4 ?_; refine tk 5 ?_; refine r1 1 (fun K hK => ?_); clear hK; go_simp; refine ⟨rfl, ⟨_, _, rfl⟩, ?_⟩; have HS := HS2.out; repeat (first | (with_reducible exact hB) | (with_reducible refine c_alloc ?_ (by omega) _) | (with_reducible refine below_drewCd ?_))
theorem opOf_reg_plc (r x y : Int) (w : World) : Calls Tryz.prog 206 #[regV r, plcV x y] w fun e w' => e = .returned (qv 1 r x y) ∧ Below w.heap.size w w' := by
 have f0 := as_reg_plc r; have f1 := as_reg_reg r; have f2 := as_plc_plc x y; obtain ⟨w1, e1, hb1, hs1, X⟩ := b4_new w (.int .i64 0) (.int .i64 0) (.int .i64 0) (.int .i64 0) 96; obtain ⟨w2, e2, hb2, hs2, Y0, Y1, -, -⟩ := b2_newCd w1 (.int .i64 0) (.int .i64 0) 264; have HE1 := hide e1; have HE2 := hide e2; have HX := hide (X.below hb2); have hB := bcall hb1 hb2; rw [hs1] at Y0 Y1; have HS2 := hide (show w2.heap.size = w.heap.size + 2 by omega); clear e1 e2 X hb1 hb2 hs1 hs2; go_enter Tryz.func206, Tryz.ntmps206
 go_upto_region 2 with (fail)
 rw [HE1.out, HE2.out]; obtain ⟨w3, e3, hb3, hs3, W0, W1, -, -⟩ := b2_newCd w2 (.int .i64 x) (.int .i64 y) 264; have HE3 := hide e3; have HX := hide (HX.out.below hb3); have hB := bcall hB hb3; clear e3 hb3 hs3 Y0 Y1; go_upto_region 8 with (fail)
 rw [HE3.out]; obtain ⟨X0, X1, X2, X3⟩ := HX.out.all; obtain ⟨X4, X5, X6, X7⟩ := HX.out.free; go_wp2; refine bodyPost_ret (v := qv 1 r x y) (by simp [results, Tryz.results206, go_sem, X0, X1, X2, X3]) rfl ⟨rfl, ?_⟩; repeat (first | (with_reducible exact hB) | (with_reducible refine c_set ?_ _ _ (by omega) _) | (with_reducible refine below_drewCd ?_))
theorem opOf_reg_fre (r : Int) (w : World) : Calls Tryz.prog 206 #[regV r, freV] w fun e w' => e = .returned (qv 3 r 0 0) ∧ Below w.heap.size w w' := by
 have f0 := as_reg_plc r; have f1 := as_reg_reg r; have f2 := as_fre_plc ; have f3 := as_fre_fre ; obtain ⟨w1, e1, hb1, hs1, X⟩ := b4_new w (.int .i64 0) (.int .i64 0) (.int .i64 0) (.int .i64 0) 96; obtain ⟨w2, e2, hb2, hs2, Y0, Y1, -, -⟩ := b2_newCd w1 (.int .i64 0) (.int .i64 0) 264; have HE1 := hide e1; have HE2 := hide e2; have HX := hide (X.below hb2); have hB := bcall hb1 hb2; rw [hs1] at Y0 Y1; have HS2 := hide (show w2.heap.size = w.heap.size + 2 by omega); clear e1 e2 X hb1 hb2 hs1 hs2; go_enter Tryz.func206, Tryz.ntmps206
 go_upto_region 2 with (fail)
 rw [HE1.out, HE2.out]; obtain ⟨w3, e3, hb3⟩ : ∃ w3, w2.alloc (.cells #[] 266) = w3 ∧ Below w2.heap.size w2 w3 := ⟨_, rfl, cbal _ _⟩; have HE3 := hide e3; have HX := hide (HX.out.below hb3); have hB := bcall hB hb3; clear e3 hb3 Y0 Y1; go_upto_region 11 with (fail)
 rw [HE3.out]; obtain ⟨X0, X1, X2, X3⟩ := HX.out.all; obtain ⟨X4, X5, X6, X7⟩ := HX.out.free; go_wp2; refine bodyPost_ret (v := qv 3 r 0 0) (by simp [results, Tryz.results206, go_sem, X0, X1, X2, X3]) rfl ⟨rfl, ?_⟩; repeat (first | (with_reducible exact hB) | (with_reducible refine c_set ?_ _ _ (by omega) _) | (with_reducible refine below_drewCd ?_))
theorem opOf_reg_non (r : Int) (w : World) : Calls Tryz.prog 206 #[regV r, nonV] w fun e w' => e = .returned (qv 5 r 0 0) ∧ Below w.heap.size w w' := by
 have f0 := as_reg_plc r; have f1 := as_reg_reg r; have f2 := as_non_plc ; have f3 := as_non_fre ; have f4 := as_non_non ; obtain ⟨w1, e1, hb1, hs1, X⟩ := b4_new w (.int .i64 0) (.int .i64 0) (.int .i64 0) (.int .i64 0) 96; obtain ⟨w2, e2, hb2, hs2, Y0, Y1, -, -⟩ := b2_newCd w1 (.int .i64 0) (.int .i64 0) 264; have HE1 := hide e1; have HE2 := hide e2; have HX := hide (X.below hb2); have hB := bcall hb1 hb2; rw [hs1] at Y0 Y1; have HS2 := hide (show w2.heap.size = w.heap.size + 2 by omega); clear e1 e2 X hb1 hb2 hs1 hs2; go_enter Tryz.func206, Tryz.ntmps206
 go_upto_region 2 with (fail)
 rw [HE1.out, HE2.out]; obtain ⟨w3, e3, hb3⟩ : ∃ w3, w2.alloc (.cells #[] 267) = w3 ∧ Below w2.heap.size w2 w3 := ⟨_, rfl, cbal _ _⟩; have HE3 := hide e3; have HX := hide (HX.out.below hb3); have hB := bcall hB hb3; clear e3 hb3 Y0 Y1; go_upto_region 14 with (fail)
 rw [HE3.out]; obtain ⟨X0, X1, X2, X3⟩ := HX.out.all; obtain ⟨X4, X5, X6, X7⟩ := HX.out.free; go_wp2; refine bodyPost_ret (v := qv 5 r 0 0) (by simp [results, Tryz.results206, go_sem, X0, X1, X2, X3]) rfl ⟨rfl, ?_⟩; repeat (first | (with_reducible exact hB) | (with_reducible refine c_set ?_ _ _ (by omega) _) | (with_reducible refine below_drewCd ?_))
theorem opOf_reg_reg (r x : Int) (w : World) : Calls Tryz.prog 206 #[regV r, regV x] w fun e w' => e = .returned (qv 4 r x 0) ∧ Below w.heap.size w w' := by
 have f0 := as_reg_plc r; have f1 := as_reg_reg r; have f2 := as_reg_plc x; have f3 := as_reg_fre x; have f4 := as_reg_non x; have f5 := as_reg_reg x; obtain ⟨w1, e1, hb1, hs1, X⟩ := b4_new w (.int .i64 0) (.int .i64 0) (.int .i64 0) (.int .i64 0) 96; obtain ⟨w2, e2, hb2, hs2, Y0, Y1, -, -⟩ := b2_newCd w1 (.int .i64 0) (.int .i64 0) 264; have HE1 := hide e1; have HE2 := hide e2; have HX := hide (X.below hb2); have hB := bcall hb1 hb2; rw [hs1] at Y0 Y1; have HS2 := hide (show w2.heap.size = w.heap.size + 2 by omega); clear e1 e2 X hb1 hb2 hs1 hs2; go_enter Tryz.func206, Tryz.ntmps206
 go_upto_region 2 with (fail)
 rw [HE1.out, HE2.out]; obtain ⟨X0, X1, X2, X3⟩ := HX.out.all; obtain ⟨X4, X5, X6, X7⟩ := HX.out.free; go_wp2; refine bodyPost_ret (v := qv 4 r x 0) (by simp [results, Tryz.results206, go_sem, X0, X1, X2, X3]) rfl ⟨rfl, ?_⟩; repeat (first | (with_reducible exact hB) | (with_reducible refine c_set ?_ _ _ (by omega) _) | (with_reducible refine below_drewCd ?_))
theorem opOf_reg_bad (r : Int) (w : World) : Calls Tryz.prog 206 #[regV r, .nilIface] w fun e w' => PanC e ∧ Below w.heap.size w w' := by
 have f0 := as_reg_plc r; have f1 := as_reg_reg r; have f2 := as_bad_plc ; have f3 := as_bad_fre ; have f4 := as_bad_non ; have f5 := as_bad_reg ; obtain ⟨w1, e1, hb1, hs1, X⟩ := b4_new w (.int .i64 0) (.int .i64 0) (.int .i64 0) (.int .i64 0) 96; obtain ⟨w2, e2, hb2, hs2, Y0, Y1, -, -⟩ := b2_newCd w1 (.int .i64 0) (.int .i64 0) 264; have HE1 := hide e1; have HE2 := hide e2; have HX := hide (X.below hb2); have hB := bcall hb1 hb2; rw [hs1] at Y0 Y1; have HS2 := hide (show w2.heap.size = w.heap.size + 2 by omega); clear e1 e2 X hb1 hb2 hs1 hs2; go_enter Tryz.func206, Tryz.ntmps206
 go_upto_region 2 with (fail)
 rw [HE1.out, HE2.out]; go_wp2; refine ⟨rfl, ⟨_, _, rfl⟩, ?_⟩; have HS := HS2.out; repeat (first | (with_reducible exact hB) | (with_reducible refine c_alloc ?_ (by omega) _) | (with_reducible refine below_drewCd ?_))
theorem opOf_any (x y : Sd) (w : World) : Calls Tryz.prog 206 #[sdV x, sdV y] w fun e w' => (match opF x y with | some q => e = .returned (qv q.kind q.r q.a q.s) | none => PanC e) ∧ Below w.heap.size w w' := by
 cases x with
 | reg r =>
   cases y with
   | reg q => exact opOf_reg_reg r q w
   | plc a s => exact opOf_reg_plc r a s w
   | fre => exact opOf_reg_fre r w
   | non => exact opOf_reg_non r w
   | bad => exact opOf_reg_bad r w
 | plc a s =>
   cases y with
   | reg r => exact opOf_plc_reg a s r w
   | plc x y => exact opOf_plc_plc a s x y w
   | fre => exact opOf_plc_fre a s w
   | non => exact opOf_plc_non a s w
   | bad => exact opOf_plc_bad a s w
 | fre => exact opOf_fre (sdV y) w
 | non => exact opOf_non (sdV y) w
 | bad => exact opOf_bad (sdV y) w
-- MORE
theorem xt_take (s : ByteArray) (k : Nat) : (s.extract 0 k).data.toList = s.data.toList.take k := by
 rw [ByteArray.data_extract, Array.toList_extract]; simp [List.extract]
theorem xt_drop (s : ByteArray) (k : Nat) : (s.extract k s.size).data.toList = s.data.toList.drop k := by
 rw [ByteArray.data_extract, Array.toList_extract, ← ba_len s]; unfold List.extract; exact List.take_of_length_le (by simp)
theorem cut_no (s : ByteArray) (w : World) (h : Go.Lib.indexByte s.data.toList 61 = -1) : Calls Tryz.prog 161 #[.string s, .string ⟨#[61]⟩] w fun e w' => e = .returned (.tuple #[.string s, .string ⟨#[]⟩, .bool false]) ∧ w' = w := by
 have HI := hide (Tryz.stringslite_Index_one s 61); have H := hide h; clear h; go_enter Tryz.func161, Tryz.ntmps161
 go_wp2_with fail
 refine (HI.out _).mono ?_; rintro e _ ⟨rfl, rfl⟩; rw [H.out]; go_wp2; go_ret3
 exact ⟨rfl, rfl⟩
theorem cut_at (s : ByteArray) (i : Nat) (w : World) (h : Go.Lib.indexByte s.data.toList 61 = (i : Int)) (hi : i < s.size) (hs : s.size ≤ 9223372036854775807) : Calls Tryz.prog 161 #[.string s, .string ⟨#[61]⟩] w fun e w' => e = .returned (.tuple #[.string (s.extract 0 i), .string (s.extract (i + 1) s.size), .bool true]) ∧ Below w.heap.size w w' := by
 have HI := hide (Tryz.stringslite_Index_one s 61); have H := hide h; have c1 : (0 : Int) ≤ i := by omega
 have c2 : (i : Int) ≤ s.size := by omega
 have c3 : (0 : Int) ≤ i + 1 := by omega
 have c4 : (i : Int) + 1 ≤ s.size := by omega
 have c5 : ((i : Int) + 1).toNat = i + 1 := by omega
 have c6 : IntKind.i64.wrap ((i : Int) + 1) = (i : Int) + 1 := by simp [IntKind.wrap, IntKind.bits, IntKind.signed]; omega
 clear h hi hs; go_enter Tryz.func161, Tryz.ntmps161
 go_wp2_with fail
 refine (HI.out _).mono ?_; rintro e _ ⟨rfl, rfl⟩; rw [H.out]; go_wp2; refine wp_region_held_drew (S := fun _ => True) (by kernel_rfl) ?_ (fun hHeld => ?_)
 · exact trivial
 refine tk 0 ?_; refine tk 1 ?_; refine tk 2 ?_; refine tk 3 ?_; refine tk 4 ?_; refine tk 5 ?_; refine tk 6 ?_; refine tk 7 ?_; refine tk 8 ?_; refine tk 9 ?_; refine tk 10 ?_; refine tk 11 ?_; refine wpAnyH_done (by kernel_rfl) ?_ _; go_wp2; go_ret3
 exact ⟨rfl, below_drewCd (Below.refl _ _)⟩
theorem Cut_any (s : ByteArray) (w : World) (hs : s.size ≤ 9223372036854775807) : Calls Tryz.prog 119 #[.string s, .string ⟨#[61]⟩] w fun e w' => ∃ (x y : ByteArray) (b : Bool), e = .returned (.tuple #[.string x, .string y, .bool b]) ∧ (x.data.toList, y.data.toList) = eqCut s.data.toList ∧ x.size ≤ s.size ∧ y.size ≤ s.size ∧ Below w.heap.size w w' := by
 rcases idx_cases s.data.toList 61 with ⟨h1, h2⟩ | ⟨i, h1, h2, h3, h4⟩
 · have HC := hide (cut_no s · h1)
   have HF := hide (eqCut_none h2); clear h1 h2; go_enter Tryz.func119, Tryz.ntmps119
   go_wp2_with fail
   refine (HC.out _).mono ?_; rintro e w' ⟨rfl, rfl⟩; go_wp2; go_ret3
   exact ⟨s, ⟨#[]⟩, false, rfl, by rw [HF.out], Nat.le_refl _, Nat.zero_le _, Below.refl _ _⟩
 · rw [ba_len] at h2
   have HC := hide (cut_at s i · h1 h2 hs); have HF := hide (show eqCut s.data.toList = (s.data.toList.take i, s.data.toList.drop (i + 1)) from (congrArg eqCut h3).trans (eqCut_some h4)); obtain ⟨x, hx⟩ : ∃ x, s.extract 0 i = x := ⟨_, rfl⟩; obtain ⟨y, hy⟩ : ∃ y, s.extract (i + 1) s.size = y := ⟨_, rfl⟩; have HX := hide (show x.data.toList = s.data.toList.take i by rw [← hx]; exact xt_take s i); have HY := hide (show y.data.toList = s.data.toList.drop (i + 1) by rw [← hy]; exact xt_drop s (i + 1)); have HXL := hide (show x.size ≤ s.size by rw [← ba_len x, ← ba_len s, HX.out, List.length_take]; omega); have HYL := hide (show y.size ≤ s.size by rw [← ba_len y, ← ba_len s, HY.out, List.length_drop]; omega); rw [hx, hy] at HC; clear h1 h2 h3 h4 hx hy; go_enter Tryz.func119, Tryz.ntmps119
   go_wp2_with fail
   refine (HC.out _).mono ?_; rintro e w' ⟨rfl, hb⟩; go_wp2; go_ret3
   exact ⟨x, y, true, rfl, by rw [HF.out, HX.out, HY.out], HXL.out, HYL.out, hb⟩
def rdF (t : List UInt8) (o : Option Oq) : Option Oq := match o with | none => none | some o => if cText o = t then some o else none
def RdV (o : Option Oq) (e : Ending) : Prop := match o with | some q => e = .returned (.iface 96 (qv q.kind q.r q.a q.s)) | none => e = .returned .nilIface ∨ PanC e
theorem read_anyCd (s : ByteArray) (w : World) (hs : s.size ≤ 9223372036854775807) : Calls Tryz.prog 185 #[.string s] w fun e w' => RdV (cOne s.data.toList) e ∧ Below w.heap.size w w' := by
 rw [← readF_is]; have HC := hide (Cut_any s · hs); obtain ⟨t, ht⟩ : ∃ t, s.data.toList = t := ⟨_, rfl⟩; rw [ht] at HC ⊢; obtain ⟨p, hp⟩ : ∃ p, (eqCut t).1 = p := ⟨_, rfl⟩; obtain ⟨q, hq⟩ : ∃ q, (eqCut t).2 = q := ⟨_, rfl⟩; have HP := hide hp; have HQ := hide hq; obtain ⟨R, hR⟩ : ∃ R, readFCd t = R := ⟨_, rfl⟩; have HR := hide hR; rw [hR]; have HT := hide ht; clear hp hq hR ht; go_enter Tryz.func185, Tryz.ntmps185
 go_wp2_with fail
 refine (HC.out _).mono ?_; rintro e w1 ⟨x, y, b, rfl, hxy, -, -, hb1⟩; have HXY := hide hxy; clear hxy; go_wp2_with fail
 (with_reducible refine (side_any x _).mono ?_); rintro e w2 ⟨rfl, hb2⟩; have hB := bcall hb1 hb2; clear hb1 hb2; go_wp2_with fail
 (with_reducible refine (side_any y _).mono ?_); rintro e w3 ⟨rfl, hb3⟩; replace hB := bcall hB hb3; clear hb3; obtain ⟨o, ho⟩ : ∃ o, opF (sideF x.data.toList) (sideF y.data.toList) = o := ⟨_, rfl⟩; have HO := hide (opOf_any (sideF x.data.toList) (sideF y.data.toList) w3); rw [ho] at HO; have HF := hide (show readFCd t = rdF t o by
  have e1 : (eqCut t).1 = x.data.toList := by rw [← HXY.out]
  have e2 : (eqCut t).2 = y.data.toList := by rw [← HXY.out]
  unfold readFCd rdF; rw [e1, e2, ho]; cases o <;> rfl)
 clear ho; cases o with
 | none =>
   go_wp2_with fail
   (with_reducible refine HO.out.mono ?_); rintro e w4 ⟨⟨u, v, rfl⟩, hb4⟩; replace hB := bcall hB hb4; go_wp2; refine ⟨rfl, ?_, hB⟩; rw [← HR.out, HF.out, rdF]; exact Or.inr ⟨_, _, rfl⟩
 | some o =>
   obtain ⟨k, r, a, z⟩ := o; simp only [rdF] at HO HF; go_wp2_with fail
   (with_reducible refine HO.out.mono ?_); rintro e w4 ⟨rfl, hb4⟩; replace hB := bcall hB hb4; clear hb4; obtain ⟨w5, e5, hb5, hs5, X⟩ := b4_new w4 (.int .i64 k) (.int .i64 r) (.int .i64 a) (.int .i64 z) 96; have HE5 := hide e5; have HX := hide X; replace hB := bcall hB hb5; obtain ⟨X0, X1, X2, X3⟩ := X.all; clear e5 X hb5; go_upto_region 3 with (fail)
   rw [HE5.out]; go_wp2_with fail
   (with_reducible refine (opText_any k r a z _).mono ?_); rintro e w6 ⟨rfl, hb6⟩; have HX6 := hide (HX.out.below hb6); replace hB := bcall hB hb6; clear X0 X1 X2 X3 hb6; obtain ⟨X0, X1, X2, X3⟩ := HX6.out.all; by_cases he : cText ⟨k, r, a, z⟩ = t
   · have HG := hide (show R = some ⟨k, r, a, z⟩ by rw [← HR.out, HF.out, if_pos he])
     obtain ⟨T, hT⟩ : ∃ T : ByteArray, (⟨(cText ⟨k, r, a, z⟩).toArray⟩ : ByteArray) = T := ⟨_, rfl⟩; have q1 : (T.toList == s.toList) = true := by
      rw [beq_iff_eq, ba_list, ba_list, HT.out, ← hT, ← he]
     rw [hT]; clear he hT; go_wp2; go_ret
     exact ⟨by rw [HG.out]; rfl, hB⟩
   · have HG := hide (show R = none by rw [← HR.out, HF.out, if_neg he])
     obtain ⟨T, hT⟩ : ∃ T : ByteArray, (⟨(cText ⟨k, r, a, z⟩).toArray⟩ : ByteArray) = T := ⟨_, rfl⟩; have q1 : (T.toList == s.toList) = false := by
      rw [beq_eq_false_iff_ne, ba_list, ba_list, HT.out, ← hT]; exact he
     rw [hT]; clear he hT; go_wp2; go_ret
     exact ⟨by rw [HG.out]; exact Or.inl rfl, hB⟩
end Go.Proofs.YtjbaiibbgplljaaGreatDoor
namespace Go.Proofs.YtjbaiibbgplljaaGreatDoor
open Go.RowKit Go.Shelf Go.Proofs
attribute [local go_sem] Oper.semAt_some
theorem set_sameCd {w : World} {g : Nat} {v x : Value} (h : w.cell? ⟨g, 0, none⟩ = some x) : (w.setCell ⟨g, 0, none⟩ v).cell? ⟨g, 0, none⟩ = some v := World.cell?_setCell_same' _ _ _ (by rw [h]; rfl)
theorem cut_step {t : List UInt8} {i : Nat} (h : t = t.take i ++ 59 :: t.drop (i + 1)) (hm : (59 : UInt8) ∉ t.take i) : cut 59 t = t.take i :: cut 59 (t.drop (i + 1)) := (congrArg (cut 59) h).trans (cut_pre _ _ _ hm)
theorem split_in (n : Nat) (hn : 1 ≤ n) (l Bp Bs Bv : Nat) (t0 : ByteArray) (h0s : t0.size ≤ 9223372036854775807) (J : List (List UInt8) → World → Prop) (Jp : List PanicEntry → World → Prop)
 (hJs : ∀ pre W v, J pre W → J pre (W.setCell ⟨Bs, 0, none⟩ v))
 (hJc : ∀ pre W, J pre W → W.cell? ⟨Bp, 0, none⟩ = some (.string ⟨#[59]⟩) ∧ W.cell? ⟨Bv, 0, none⟩ = some (.int .i64 0) ∧ W.frozen? ⟨Bs, 0, none⟩ = false)
 (hY : ∀ pre rest (x t : ByteArray) W, J pre W → W.cell? ⟨Bs, 0, none⟩ = some (.string t) → x.size ≤ t0.size → pre ++ x.data.toList :: rest = cut 59 t0.data.toList → YieldAt Fence.wide (n - 1) Tryz.prog l #[.string x] W fun e W' =>
  (e = .returned (.bool true) ∧ J (pre ++ [x.data.toList]) W' ∧ W'.cell? ⟨Bs, 0, none⟩ = some (.string t)) ∨ ∃ ch, e = .panicked ch ∧ Jp ch W')
 (W : World) (h0 : J [] W) (ht : W.cell? ⟨Bs, 0, none⟩ = some (.string t0)) :
 CallsIn Fence.wide n Tryz.prog 194 #[.func (.yield l) #[] #[], .pointer (some ⟨Bp, 0, none⟩), .pointer (some ⟨Bs, 0, none⟩), .pointer (some ⟨Bv, 0, none⟩)] W fun e W' =>
  ((∃ v, e = .returned v) ∧ J (cut 59 t0.data.toList) W') ∨ ∃ ch, e = .panicked ch ∧ Jp ch W' := by
 refine callsIn_of_wp Tryz.func194 rfl trivial ?_ rfl; simp only [Tryz.ntmps194, List.size_toArray, List.length_cons, List.length_nil, Nat.reduceAdd, Nat.reduceSub, Array.replicate_succ, Array.replicate_zero, List.push_toArray, List.append_toArray, List.nil_append, List.cons_append]; have HI := Go.Lib.hid Tryz.strings_Index_one; obtain ⟨c1, c2, c3⟩ := hJc _ _ h0; gi_wp2
 gi_loopw [7, 8] (fun iv fv wr => ∃ (pre : List (List UInt8)) (t : ByteArray), t.size ≤ t0.size ∧ pre ++ cut 59 t.data.toList = cut 59 t0.data.toList ∧ wr.cell? ⟨Bs, 0, none⟩ = some (.string t) ∧ J pre wr)
  (fun _ _ wr => match wr.cell? ⟨Bs, 0, none⟩ with | some (.string t) => t.size | _ => 0)
 case atStart => exact ⟨[], t0, Nat.le_refl _, rfl, ht, h0⟩
 case round =>
  obtain ⟨pre, t, htl, hx, hcs, hJ⟩ := hrel; obtain ⟨c1, c2, c3⟩ := hJc _ _ hJ; have HM := Go.Lib.hid hcs; rcases idx_cases t.data.toList 59 with ⟨h1, h2⟩ | ⟨i, h1, h2, h3, h4⟩
  · have HQ := Go.Lib.hid h1
    have HX := Go.Lib.hid (show pre ++ t.data.toList :: [] = cut 59 t0.data.toList by rw [← hx, cut_all _ _ h2]); obtain ⟨fn, tmps, assign, body, hy, hR⟩ := hY pre [] t t wr hJ hcs htl HX.out; have HR := Go.Lib.hid hR; clear h1 h2 hx hR; gi_wp2_with (refine ⟨trivial, ?_⟩; gi_at_call 156; refine (callsIn_wide.2 (HI.out _ _ _)).mono ?_; rintro e w' ⟨rfl, rfl⟩; rw [HQ.out])
    refine HR.out.mono ?_; rintro e W3 (⟨rfl, hJ3, -⟩ | ⟨ch, rfl, hp⟩)
    · gi_wp2
      go_end0
      exact Or.inl ⟨⟨_, rfl⟩, by rw [← HX.out]; exact hJ3⟩
    · exact ⟨rfl, Or.inr ⟨ch, rfl, hp⟩⟩
  · rw [ba_len] at h2
    have HQ := Go.Lib.hid h1; have hcut := cut_step h3 h4; obtain ⟨x, hxx⟩ : ∃ x, t.extract 0 i = x := ⟨_, rfl⟩; obtain ⟨y, hyy⟩ : ∃ y, t.extract (i + 1) t.size = y := ⟨_, rfl⟩; have ex : x.data.toList = t.data.toList.take i := by rw [← hxx]; exact xt_take t i
    have ey : y.data.toList = t.data.toList.drop (i + 1) := by rw [← hyy]; exact xt_drop t (i + 1)
    have hxl : x.size ≤ t0.size := by rw [← ba_len x, ex, List.length_take, ba_len]; omega
    have hyl : y.size < t.size := by rw [← ba_len y, ey, List.length_drop, ba_len]; omega
    rw [hcut, ← ex, ← ey] at hx; have HX := Go.Lib.hid (show (pre ++ [x.data.toList]) ++ cut 59 y.data.toList = cut 59 t0.data.toList by rw [← hx]; simp); have d1 : (0 : Int) ≤ i := by omega
    have d2 : (i : Int) ≤ t.size := by omega
    have d3 : IntKind.i64.wrap (i : Int) = i := by simp [IntKind.wrap, IntKind.bits, IntKind.signed]; omega
    have d4 : IntKind.i64.wrap ((i : Int) + 1) = (i : Int) + 1 := by simp [IntKind.wrap, IntKind.bits, IntKind.signed]; omega
    have d5 : (0 : Int) ≤ i + 1 := by omega
    have d6 : (i : Int) + 1 ≤ t.size := by omega
    have d7 : ¬ (i : Int) < 0 := by omega
    obtain ⟨fn, tmps, assign, body, hy, hR⟩ := hY pre (cut 59 y.data.toList) x t wr hJ hcs hxl hx; have HR := Go.Lib.hid hR; clear h1 h2 h3 h4 hx hR hcut ex ey; gi_wp2_with (refine ⟨trivial, ?_⟩; gi_at_call 156; refine (callsIn_wide.2 (HI.out _ _ _)).mono ?_; rintro e w' ⟨rfl, rfl⟩; rw [HQ.out])
    refine HR.out.mono ?_; rintro e W3 (⟨rfl, hJ3, hc3⟩ | ⟨ch, rfl, hp⟩)
    · obtain ⟨b1, b2, b3⟩ := hJc _ _ hJ3
      gi_wp2
      go_roundw
      case rel => exact ⟨pre ++ [x.data.toList], y, by omega, HX.out, set_sameCd hc3, hJs _ _ _ hJ3⟩
      case measure => rw [set_sameCd hc3, HM.out]; exact hyl
    · exact ⟨rfl, Or.inr ⟨ch, rfl, hp⟩⟩
