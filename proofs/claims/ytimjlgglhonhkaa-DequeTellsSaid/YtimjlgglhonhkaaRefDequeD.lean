/- Layer deque, the document's answer: a machine's box; load, store, swap, place. -/
import Derived.Test.YtimjlgglhonhkaaDequeEx
import Derived.Test.YtimjlgglhonhkaaRefMem
namespace Go.Proofs.Ytimjlgglhonhkaa
open Go.RowKit

structure RMb (w : World) (B : Nat) (d : Mc) : Prop where
  blk : w.heap[B]? = some (.cells (mcs d) 30)
section
variable {w w' : World} {B : Nat} {d : Mc}
theorem RMb.lt (h : RMb w B d) : B < w.heap.size := (Array.getElem?_eq_some_iff.1 h.blk).1
theorem RMb.cell (h : RMb w B d) (i : Nat) : w.cell? ⟨B, i, none⟩ = (mcs d)[i]? := Joins.cell_of_block h.blk i
theorem RMb.unf (h : RMb w B d) (i : Nat) : w.frozen? ⟨B, i, none⟩ = false := Joins.unfrozen_of_block h.blk i
theorem RMb.below (h : RMb w B d) (hb : Below w.heap.size w w') : RMb w' B d := ⟨(hb.block B h.lt).trans h.blk⟩
end
section
variable {w : World} {B : Nat} {k p s c b t x u : Int}
theorem RMb.cells (h : RMb w B ⟨k, p, s, c, b, t, x, u⟩) : w.cell? ⟨B, 0, none⟩ = some (.int .i64 k) ∧ w.cell? ⟨B, 1, none⟩ = some (.int .i64 p) ∧ w.cell? ⟨B, 2, none⟩ = some (.int .i64 s) ∧ w.cell? ⟨B, 3, none⟩ = some (.int .i64 c) ∧
    w.cell? ⟨B, 4, none⟩ = some (.int .u64 b) ∧ w.cell? ⟨B, 5, none⟩ = some (.int .u64 t) ∧ w.cell? ⟨B, 6, none⟩ = some (.int .i64 x) ∧ w.cell? ⟨B, 7, none⟩ = some (.int .i64 u) :=
  ⟨h.cell 0, h.cell 1, h.cell 2, h.cell 3, h.cell 4, h.cell 5, h.cell 6, h.cell 7⟩
theorem RMb.unfs {d : Mc} (h : RMb w B d) : w.frozen? ⟨B, 0, none⟩ = false ∧ w.frozen? ⟨B, 1, none⟩ = false ∧ w.frozen? ⟨B, 2, none⟩ = false ∧ w.frozen? ⟨B, 3, none⟩ = false ∧
    w.frozen? ⟨B, 4, none⟩ = false ∧ w.frozen? ⟨B, 5, none⟩ = false ∧ w.frozen? ⟨B, 6, none⟩ = false ∧ w.frozen? ⟨B, 7, none⟩ = false :=
  ⟨h.unf 0, h.unf 1, h.unf 2, h.unf 3, h.unf 4, h.unf 5, h.unf 6, h.unf 7⟩
end
theorem rmb_new (w : World) (d : Mc) : RMb (w.alloc (.cells (mcs d) 30)) w.heap.size d := ⟨heap_alloc_new w _⟩
theorem rbox_one (w : World) (k p s c b t x u : Int) : ∃ w1, w.alloc (.cells #[.int .i64 k, .int .i64 p, .int .i64 s, .int .i64 c, .int .u64 b, .int .u64 t, .int .i64 x, .int .i64 u] 30) = w1 ∧ Below w.heap.size w w1 ∧ RMb w1 w.heap.size ⟨k, p, s, c, b, t, x, u⟩ :=
  ⟨_, rfl, bal _ _, rmb_new w ⟨k, p, s, c, b, t, x, u⟩⟩
/-- a machine that came in, and the box of one that goes out -/
theorem rbox_two (w : World) (k p s c b t x u : Int) : ∃ w1, (w.alloc (.cells #[.int .i64 k, .int .i64 p, .int .i64 s, .int .i64 c, .int .u64 b, .int .u64 t, .int .i64 x, .int .i64 u] 30)).alloc (.cells #[.int .i64 0, .int .i64 0, .int .i64 0, .int .i64 0, .int .u64 0, .int .u64 0, .int .i64 0, .int .i64 0] 30) = w1 ∧
    Below w.heap.size w w1 ∧ w1.heap.size = w.heap.size + 1 + 1 ∧ RMb w1 w.heap.size ⟨k, p, s, c, b, t, x, u⟩ ∧ RMb w1 (w.heap.size + 1) ⟨0, 0, 0, 0, 0, 0, 0, 0⟩ := by
  refine ⟨_, rfl, bcall (bal _ _) (bal _ _), by simp, (rmb_new w ⟨k, p, s, c, b, t, x, u⟩).below (bal _ _), ?_⟩
  have := rmb_new (w.alloc (.cells (mcs ⟨k, p, s, c, b, t, x, u⟩) 30)) ⟨0, 0, 0, 0, 0, 0, 0, 0⟩
  simp at this
  exact this
theorem RMb.put {w : World} {B : Nat} {d d' : Mc} (h : RMb w B d) (i : Nat) (x : Value) (e : (mcs d).setIfInBounds i x = mcs d') : RMb (w.setCell ⟨B, i, none⟩ x) B d' := ⟨by rw [Joins.block_setCell h.blk x, e]⟩
section
variable {w : World} {R : Nat} {k p s c b t x u : Int}
theorem RMb.set8 {d : Mc} (h : RMb w R d) : RMb (set8 w R k p s c b t x u) R ⟨k, p, s, c, b, t, x, u⟩ := by
  obtain ⟨K, P, S, C, B, T, X, O⟩ := d
  have h0 : RMb _ R ⟨k, P, S, C, B, T, X, O⟩ := h.put 0 (.int .i64 k) rfl
  have h1 : RMb _ R ⟨k, p, S, C, B, T, X, O⟩ := h0.put 1 (.int .i64 p) rfl
  have h2 : RMb _ R ⟨k, p, s, C, B, T, X, O⟩ := h1.put 2 (.int .i64 s) rfl
  have h3 : RMb _ R ⟨k, p, s, c, B, T, X, O⟩ := h2.put 3 (.int .i64 c) rfl
  have h4 : RMb _ R ⟨k, p, s, c, b, T, X, O⟩ := h3.put 4 (.int .u64 b) rfl
  have h5 : RMb _ R ⟨k, p, s, c, b, t, X, O⟩ := h4.put 5 (.int .u64 t) rfl
  have h6 : RMb _ R ⟨k, p, s, c, b, t, x, O⟩ := h5.put 6 (.int .i64 x) rfl
  have h7 : RMb _ R ⟨k, p, s, c, b, t, x, u⟩ := h6.put 7 (.int .i64 u) rfl
  exact h7
theorem RMb.far {R' : Nat} {d : Mc} (h : RMb w R' d) (hne : R' ≠ R) : RMb (Go.Proofs.Ytimjlgglhonhkaa.set8 w R k p s c b t x u) R' d := ⟨(set8_far R' hne).trans h.blk⟩
end

set_option maxRecDepth 100000 in
set_option maxHeartbeats 2000000 in
theorem rload_any (v : Value) (m : List Int) (a x : Int) (hx : loadF m a = x) (w : World) (h : Cells w v m) (hbig : m.length * 8 ≤ 140737488351232) :
    Calls Try.prog 53 #[v, .int .i64 a] w fun e w' => e = .returned (.int .u64 x) ∧ Below w.heap.size w w' := by
  have HX := hide (show vF m ⟨1, a, 0, 0⟩ = x from hx)
  have HC := hide h
  clear hx h
  go_enter Try.func53, Try.ntmps53
  go_wp2_with fail
  (with_reducible refine (rDo_any _ m 1 a 0 0 _ HC.out hbig).mono ?_)
  rintro e w2 ⟨v', rfl, -, -, hb⟩
  rw [HX.out]
  go_wp2
  go_ret
  exact ⟨rfl, hb⟩
/-- what a deed of the document leaves: the cells, as they were or new -/
def RPut (w : World) (v : Value) (r : List Int) (n : Nat) (v' : Value) (w' : World) : Prop := ∃ A c, v' = .slice A n c ∧ (n ≤ c ∧ c ≤ 9223372036854775807) ∧ Cells w' (.slice A n c) r ∧ (Value.slice A n c = v ∨ ∀ y, (Value.slice A n c).ownBlock = some y → w.heap.size ≤ y) ∧ Below w.heap.size w w'
theorem RPut.of {w w' : World} {v v' : Value} {r : List Int} {n : Nat} (hn : r.length = n) (ho : Cells w' v' r) (hv : v' = v ∨ ∀ y, v'.ownBlock = some y → w.heap.size ≤ y) (hb : Below w.heap.size w w') : RPut w v r n v' w' := by
  subst hn
  obtain ⟨A, c, rfl, h1, h2⟩ := cells_form' ho
  exact ⟨A, c, rfl, ⟨h1, h2⟩, ho, hv, hb⟩
set_option maxRecDepth 100000 in
set_option maxHeartbeats 2000000 in
theorem rstore_any (v : Value) (m : List Int) (a x : Int) (r : List Int) (hr : storeF m a x = r) (n : Nat) (hn : r.length = n) (w : World) (h : Cells w v m) (hbig : m.length * 8 ≤ 140737488351232) :
    Calls Try.prog 79 #[v, .int .i64 a, .int .u64 x] w fun e w' => ∃ v', e = .returned v' ∧ RPut w v r n v' w' := by
  have HX := hide (show mF m ⟨2, a, x, 0⟩ = r from hr)
  have HC := hide h
  have HN := hide hn
  clear hr h hn
  go_enter Try.func79, Try.ntmps79
  go_wp2_with fail
  (with_reducible refine (rDo_any _ m 2 a x 0 _ HC.out hbig).mono ?_)
  rintro e w2 ⟨v', rfl, ho, hv, hb⟩
  rw [HX.out] at ho
  obtain ⟨A, c, rfl, hc, hP⟩ : ∃ A c, v' = .slice A n c ∧ (n ≤ c ∧ c ≤ 9223372036854775807) ∧ RPut w v r n v' w2 := by
    have hp := RPut.of HN.out ho hv hb
    obtain ⟨A, c, e, hc, h⟩ := id hp
    exact ⟨A, c, e, hc, hp⟩
  have HP := hide hP
  clear ho hv hb hP
  go_wp2
  go_ret
  exact ⟨_, rfl, HP.out⟩
set_option maxRecDepth 100000 in
set_option maxHeartbeats 2000000 in
theorem rswap_any (v : Value) (m : List Int) (a x y : Int) (r : List Int) (hr : swapF m a x y = r) (fl : Bool) (hf : swapsF m a x y = fl) (n : Nat) (hn : r.length = n) (w : World) (h : Cells w v m) (hbig : m.length * 8 ≤ 140737488351232) :
    Calls Try.prog 80 #[v, .int .i64 a, .int .u64 x, .int .u64 y] w fun e w' => ∃ v', e = .returned (.tuple #[v', .bool fl]) ∧ RPut w v r n v' w' := by
  have HX := hide (show mF m ⟨3, a, x, y⟩ = r from hr)
  have HY := hide (show okF m ⟨3, a, x, y⟩ = fl from hf)
  have HC := hide h
  have HN := hide hn
  clear hr h hn hf
  go_enter Try.func80, Try.ntmps80
  go_wp2_with fail
  (with_reducible refine (rDo_any _ m 3 a x y _ HC.out hbig).mono ?_)
  rintro e w2 ⟨v', rfl, ho, hv, hb⟩
  rw [HX.out] at ho
  rw [HY.out]
  obtain ⟨A, c, rfl, hc, hP⟩ : ∃ A c, v' = .slice A n c ∧ (n ≤ c ∧ c ≤ 9223372036854775807) ∧ RPut w v r n v' w2 := by
    have hp := RPut.of HN.out ho hv hb
    obtain ⟨A, c, e, hc, h⟩ := id hp
    exact ⟨A, c, e, hc, hp⟩
  have HP := hide hP
  clear ho hv hb hP
  go_wp2
  go_ret2
  exact ⟨_, rfl, HP.out⟩
set_option maxRecDepth 100000 in
set_option maxHeartbeats 2000000 in
theorem rplace_any (k p s c b t x u i q : Int) (hc : I6 c) (hi : U i) (hq : s64 (s + 2 + i % max c 1) = q) (w : World) :
    Calls Try.prog 54 #[mvv k p s c b t x u, .int .u64 i] w fun e w' => e = .returned (.int .i64 q) ∧ Below w.heap.size w w' := by
  have h1 := max_cap hc
  obtain ⟨cc, hcc⟩ : ∃ cc, max c 1 = cc := ⟨_, rfl⟩
  rw [hcc] at hq h1
  have hi1 := hi.1
  have hi2 := hi.2
  have HQ := hide hq
  have hm0 := Int.emod_nonneg i (b := cc) (by omega)
  have hm1 := Int.emod_lt_of_pos i (b := cc) (by omega)
  obtain ⟨r, hr⟩ : ∃ r, i % cc = r := ⟨_, rfl⟩
  rw [hr] at hm0 hm1
  have HR := hide hr
  have HM : Hid (i % max c 1 = r) := hide (by rw [hcc]; exact hr)
  have e0 : IntKind.u64.wrap cc = cc := by rw [wrap_w]; exact w64_small (by omega) (by omega)
  have e1 : i.tmod cc = r := by rw [Int.tmod_eq_emod_of_nonneg hi1]; exact hr
  have e2 : IntKind.i64.wrap r = r := by rw [wrap_s]; exact s64_small (by omega) (by omega)
  have q0 : (cc == 0) = false := by rw [beq_eq_false_iff_ne]; omega
  have q1 : cc ≠ 0 := by omega
  by_cases hlt : c < 1
  · obtain rfl : cc = 1 := by omega
    have h2 : decide (c < 1) = true := decide_eq_true hlt
    clear hq hr hcc
    obtain ⟨w1, e1_, hb1, M1⟩ := rbox_one w k p s c b t x u
    have HE := hide e1_
    have HB := hide hb1
    obtain ⟨a0, a1, a2, a3, a4, a5, a6, a7⟩ := M1.cells
    obtain ⟨g0, g1, g2, g3, g4, g5, g6, g7⟩ := M1.unfs
    clear e1_ hb1 M1
    go_enter Try.func54, Try.ntmps54
    go_upto_region 1 with (fail)
    rw [HE.out]
    go_region
    all_goals
      go_wp2
      go_ret
      refine ⟨ret_int ?_, HB.out.drew⟩
      have := HQ.out
      rw [HR.out] at this
      rw [← this]
      have _hM := HM.out
      simp only [wrap64, s64]
      try omega
  · obtain rfl : c = cc := by omega
    have h2 : decide (c < 1) = false := decide_eq_false hlt
    clear hq hr hcc
    obtain ⟨w1, e1_, hb1, M1⟩ := rbox_one w k p s c b t x u
    have HE := hide e1_
    have HB := hide hb1
    obtain ⟨a0, a1, a2, a3, a4, a5, a6, a7⟩ := M1.cells
    obtain ⟨g0, g1, g2, g3, g4, g5, g6, g7⟩ := M1.unfs
    clear e1_ hb1 M1
    go_enter Try.func54, Try.ntmps54
    go_upto_region 1 with (fail)
    rw [HE.out]
    go_region
    all_goals
      go_wp2
      go_ret
      refine ⟨ret_int ?_, HB.out.drew⟩
      have := HQ.out
      rw [HR.out] at this
      rw [← this]
      have _hM := HM.out
      simp only [wrap64, s64]
      try omega
end Go.Proofs.Ytimjlgglhonhkaa
