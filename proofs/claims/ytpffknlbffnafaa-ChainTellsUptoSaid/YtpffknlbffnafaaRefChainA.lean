/- Layer chain, the document's answer: a machine's box; load, store, swap; Pack, Node, Start. -/
import Derived.Test.YtpffknlbffnafaaChainMach
import Derived.Test.YtpffknlbffnafaaChainPack
import Derived.Test.YtpffknlbffnafaaRefMem
namespace Go.Proofs.Ytpffknlbffnafaa.ch
open Go.RowKit

structure RMb (w : World) (B : Nat) (d : Cm) : Prop where
  blk : w.heap[B]? = some (.cells (mcs d) 31)
section
variable {w w' : World} {B : Nat} {d : Cm}
theorem RMb.lt (h : RMb w B d) : B < w.heap.size := (Array.getElem?_eq_some_iff.1 h.blk).1
theorem RMb.cell (h : RMb w B d) (i : Nat) : w.cell? ⟨B, i, none⟩ = (mcs d)[i]? := Joins.cell_of_block h.blk i
theorem RMb.unf (h : RMb w B d) (i : Nat) : w.frozen? ⟨B, i, none⟩ = false := Joins.unfrozen_of_block h.blk i
theorem RMb.below (h : RMb w B d) (hb : Below w.heap.size w w') : RMb w' B d := ⟨(hb.block B h.lt).trans h.blk⟩
end
section
variable {w : World} {B : Nat} {k p s c b t x u : Int}
theorem RMb.cells (h : RMb w B ⟨k, p, s, c, b, t, x, u⟩) : w.cell? ⟨B, 0, none⟩ = some (.int .i64 k) ∧ w.cell? ⟨B, 1, none⟩ = some (.int .i64 p) ∧ w.cell? ⟨B, 2, none⟩ = some (.int .i64 s) ∧ w.cell? ⟨B, 3, none⟩ = some (.int .i64 c) ∧
    w.cell? ⟨B, 4, none⟩ = some (.int .u64 b) ∧ w.cell? ⟨B, 5, none⟩ = some (.int .i64 t) ∧ w.cell? ⟨B, 6, none⟩ = some (.int .i64 x) ∧ w.cell? ⟨B, 7, none⟩ = some (.int .i64 u) :=
  ⟨h.cell 0, h.cell 1, h.cell 2, h.cell 3, h.cell 4, h.cell 5, h.cell 6, h.cell 7⟩
theorem RMb.unfs {d : Cm} (h : RMb w B d) : w.frozen? ⟨B, 0, none⟩ = false ∧ w.frozen? ⟨B, 1, none⟩ = false ∧ w.frozen? ⟨B, 2, none⟩ = false ∧ w.frozen? ⟨B, 3, none⟩ = false ∧
    w.frozen? ⟨B, 4, none⟩ = false ∧ w.frozen? ⟨B, 5, none⟩ = false ∧ w.frozen? ⟨B, 6, none⟩ = false ∧ w.frozen? ⟨B, 7, none⟩ = false :=
  ⟨h.unf 0, h.unf 1, h.unf 2, h.unf 3, h.unf 4, h.unf 5, h.unf 6, h.unf 7⟩
end
theorem rmb_new (w : World) (d : Cm) : RMb (w.alloc (.cells (mcs d) 31)) w.heap.size d := ⟨heap_alloc_new w _⟩
theorem rbox_one (w : World) (k p s c b t x u : Int) : ∃ w1, w.alloc (.cells #[.int .i64 k, .int .i64 p, .int .i64 s, .int .i64 c, .int .u64 b, .int .i64 t, .int .i64 x, .int .i64 u] 31) = w1 ∧ Below w.heap.size w w1 ∧ RMb w1 w.heap.size ⟨k, p, s, c, b, t, x, u⟩ :=
  ⟨_, rfl, bal _ _, rmb_new w ⟨k, p, s, c, b, t, x, u⟩⟩
/-- a machine that came in, and the box of one that goes out -/
theorem rbox_two (w : World) (k p s c b t x u : Int) : ∃ w1, (w.alloc (.cells #[.int .i64 k, .int .i64 p, .int .i64 s, .int .i64 c, .int .u64 b, .int .i64 t, .int .i64 x, .int .i64 u] 31)).alloc (.cells #[.int .i64 0, .int .i64 0, .int .i64 0, .int .i64 0, .int .u64 0, .int .i64 0, .int .i64 0, .int .i64 0] 31) = w1 ∧
    Below w.heap.size w w1 ∧ w1.heap.size = w.heap.size + 1 + 1 ∧ RMb w1 w.heap.size ⟨k, p, s, c, b, t, x, u⟩ ∧ RMb w1 (w.heap.size + 1) ⟨0, 0, 0, 0, 0, 0, 0, 0⟩ := by
  refine ⟨_, rfl, bcall (bal _ _) (bal _ _), by simp, (rmb_new w ⟨k, p, s, c, b, t, x, u⟩).below (bal _ _), ?_⟩
  have := rmb_new (w.alloc (.cells (mcs ⟨k, p, s, c, b, t, x, u⟩) 31)) ⟨0, 0, 0, 0, 0, 0, 0, 0⟩
  simp at this
  exact this
theorem RMb.put {w : World} {B : Nat} {d d' : Cm} (h : RMb w B d) (i : Nat) (x : Value) (e : (mcs d).setIfInBounds i x = mcs d') : RMb (w.setCell ⟨B, i, none⟩ x) B d' := ⟨by rw [Joins.block_setCell h.blk x, e]⟩
section
variable {w : World} {R : Nat} {k p s c b t x u : Int}
theorem RMb.set8 {d : Cm} (h : RMb w R d) : RMb (set8 w R k p s c b t x u) R ⟨k, p, s, c, b, t, x, u⟩ := by
  obtain ⟨K, P, S, C, B, T, X, O⟩ := d
  have h0 : RMb _ R ⟨k, P, S, C, B, T, X, O⟩ := h.put 0 (.int .i64 k) rfl
  have h1 : RMb _ R ⟨k, p, S, C, B, T, X, O⟩ := h0.put 1 (.int .i64 p) rfl
  have h2 : RMb _ R ⟨k, p, s, C, B, T, X, O⟩ := h1.put 2 (.int .i64 s) rfl
  have h3 : RMb _ R ⟨k, p, s, c, B, T, X, O⟩ := h2.put 3 (.int .i64 c) rfl
  have h4 : RMb _ R ⟨k, p, s, c, b, T, X, O⟩ := h3.put 4 (.int .u64 b) rfl
  have h5 : RMb _ R ⟨k, p, s, c, b, t, X, O⟩ := h4.put 5 (.int .i64 t) rfl
  have h6 : RMb _ R ⟨k, p, s, c, b, t, x, O⟩ := h5.put 6 (.int .i64 x) rfl
  have h7 : RMb _ R ⟨k, p, s, c, b, t, x, u⟩ := h6.put 7 (.int .i64 u) rfl
  exact h7
theorem RMb.far {R' : Nat} {d : Cm} (h : RMb w R' d) (hne : R' ≠ R) : RMb (Go.Proofs.Ytpffknlbffnafaa.ch.set8 w R k p s c b t x u) R' d := ⟨(set8_far R' hne).trans h.blk⟩
end

set_option maxRecDepth 100000 in
set_option maxHeartbeats 2000000 in
theorem rload_any (v : Value) (m : List Int) (a x : Int) (hx : loadF m a = x) (w : World) (h : Cells w v m) (hbig : m.length * 8 ≤ 140737488351232) :
    Calls Try.prog 27 #[v, .int .i64 a] w fun e w' => e = .returned (.int .u64 x) ∧ Below w.heap.size w w' := by
  have HX := hide (show vF m ⟨1, a, 0, 0⟩ = x from hx)
  have HC := hide h
  clear hx h
  go_enter Try.func27, Try.ntmps27
  go_wp2_with fail
  (with_reducible refine (rDo_any _ m 1 a 0 0 _ HC.out hbig).mono ?_)
  rintro e w2 ⟨v', rfl, -, -, hb⟩
  rw [HX.out]
  go_wp2
  go_ret
  exact ⟨rfl, hb⟩
/-- what a deed of the document leaves: the cells, as they were or new -/
def RPut (w : World) (v : Value) (r : List Int) (n : Nat) (v' : Value) (w' : World) : Prop := ∃ A c, v' = .slice A n c ∧ (n ≤ c ∧ c ≤ 9223372036854775807) ∧ Cells w' (.slice A n c) r ∧ (Value.slice A n c = v ∨ ∀ y, (Value.slice A n c).ownBlock = some y → w.heap.size ≤ y) ∧ Below w.heap.size w w'
theorem RPut.of {w w' : World} {v v' : Value} {r : List Int} {n : Nat} (hn : r.length = n) (ho : Cells w' v' r) (hv : v' = v ∨ ∀ y, v'.ownBlock = some y → w.heap.size ≤ y) (hb : Below w.heap.size w w') : RPut w v r n v' w' := by
  subst hn
  obtain ⟨A, c, rfl, h1, h2⟩ := cells_form' ho
  exact ⟨A, c, rfl, ⟨h1, h2⟩, ho, hv, hb⟩
set_option maxRecDepth 100000 in
set_option maxHeartbeats 2000000 in
theorem rstore_any (v : Value) (m : List Int) (a x : Int) (r : List Int) (hr : storeF m a x = r) (n : Nat) (hn : r.length = n) (w : World) (h : Cells w v m) (hbig : m.length * 8 ≤ 140737488351232) :
    Calls Try.prog 28 #[v, .int .i64 a, .int .u64 x] w fun e w' => ∃ v', e = .returned v' ∧ RPut w v r n v' w' := by
  have HX := hide (show mF m ⟨2, a, x, 0⟩ = r from hr)
  have HC := hide h
  have HN := hide hn
  clear hr h hn
  go_enter Try.func28, Try.ntmps28
  go_wp2_with fail
  (with_reducible refine (rDo_any _ m 2 a x 0 _ HC.out hbig).mono ?_)
  rintro e w2 ⟨v', rfl, ho, hv, hb⟩
  rw [HX.out] at ho
  obtain ⟨A, c, rfl, hc, hP⟩ : ∃ A c, v' = .slice A n c ∧ (n ≤ c ∧ c ≤ 9223372036854775807) ∧ RPut w v r n v' w2 := by
    have hp := RPut.of HN.out ho hv hb
    obtain ⟨A, c, e, hc, h⟩ := id hp
    exact ⟨A, c, e, hc, hp⟩
  have HP := hide hP
  clear ho hv hb hP
  go_wp2
  go_ret
  exact ⟨_, rfl, HP.out⟩
set_option maxRecDepth 100000 in
theorem rNode_same (h z : Int) (hh : U h) (hz : nodeF h = z) (w : World) : Calls Try.prog 18 #[.int .u64 h] w fun e w' => e = .returned (.int .i64 z) ∧ w' = w := by
  have h0 := hh.1
  have h1 := hh.2
  have e1 : h.tmod 4294967296 = z := by rw [Int.tmod_eq_emod_of_nonneg h0]; exact hz
  have r : 0 ≤ z ∧ z < 4294967296 := by rw [← hz]; unfold nodeF; omega
  obtain ⟨r0, r1⟩ := r
  have e2 : IntKind.i64.wrap z = z := by rw [wrap_s]; exact s64_small (by omega) (by omega)
  clear hz
  go_enter Try.func18, Try.ntmps18
  go_wp2
  go_ret
  exact ⟨by first | rfl | (congr 2; omega), rfl⟩
set_option maxRecDepth 100000 in
theorem rPack_same (v n z : Int) (hv : U v) (hz : packF v n = z) (w : World) : Calls Try.prog 16 #[.int .u64 v, .int .i64 n] w fun e w' => e = .returned (.int .u64 z) ∧ w' = w := by
  have h0 := hv.1
  obtain ⟨a, ha⟩ : ∃ a, v % 4294967296 = a := ⟨_, rfl⟩
  obtain ⟨b, hb⟩ : ∃ b, n % 4294967296 = b := ⟨_, rfl⟩
  have ra : 0 ≤ a ∧ a < 4294967296 := by omega
  have rb : 0 ≤ b ∧ b < 4294967296 := by omega
  have e1 : v.tmod 4294967296 = a := by rw [Int.tmod_eq_emod_of_nonneg h0]; exact ha
  have e2 : (IntKind.u64.wrap n).tmod 4294967296 = b := by
    rw [wrap_w, Int.tmod_eq_emod_of_nonneg (by unfold w64; omega)]
    unfold w64; omega
  have e3 : IntKind.u64.wrap (a * 4294967296) = a * 4294967296 := by rw [wrap_w]; unfold w64; omega
  have HZ := hide (show a * 4294967296 + b = z by rw [← hz]; unfold packF; rw [ha, hb])
  clear hz ha hb
  go_enter Try.func16, Try.ntmps16
  go_wp2
  go_ret
  exact ⟨congrArg (fun z => Ending.returned (Value.int IntKind.u64 z)) HZ.out, rfl⟩
set_option maxRecDepth 100000 in
theorem rStart_any (k s c x : Int) (w : World) : Calls Try.prog 20 #[.int .i64 k, .int .i64 s, .int .i64 c, .int .i64 x] w fun e w' => e = .returned (mvv k 0 s c 0 x 0 0) ∧ Below w.heap.size w w' := by
  go_enter Try.func20, Try.ntmps20
  go_wp2
  exact bodyPost_ret (v := mvv k 0 s c 0 x 0 0) (by simp [results, Try.results20, go_sem]) rfl ⟨rfl, bal _ _⟩
set_option maxRecDepth 100000 in
theorem refChain_any (k p s c b t x u : Int) (w : World) : Calls Try.prog 8 #[mvv k p s c b t x u] w fun e w' => e = .returned (mvv k p s c b t x u) ∧ Below w.heap.size w w' := by
  go_enter Try.func8, Try.ntmps8
  go_wp2
  exact bodyPost_ret (v := mvv k p s c b t x u) (by simp [results, Try.results8, go_sem]) rfl ⟨rfl, bcall (bal _ _) (bal _ _)⟩
end Go.Proofs.Ytpffknlbffnafaa.ch
