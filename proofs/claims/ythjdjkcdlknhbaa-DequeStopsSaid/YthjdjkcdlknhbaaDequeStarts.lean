import Derived.Test.YthjdjkcdlknhbaaDequeWStep
import Derived.Test.YthjdjkcdlknhbaaMemOpen
/- Layer deque: the law's world at the start. -/
namespace Go.Proofs.Ythjdjkcdlknhbaa
open Go.RowKit

theorem infoMach : (Try.prog.info? 26).map (fun i => (i.zero, i.size, i.bytes)) = some (some (.agg #[.int .i64 0, .int .i64 0, .int .i64 0, .int .i64 0, .int .u64 0, .int .u64 0, .int .i64 0, .int .i64 0]), 8, 64) := by kernel_rfl
def own0 : Mc := ⟨0, 0, 0, 0, 0, 0, 0, 1⟩
def zeros14 : Array Value := #[.slice none 0 0, .int .i64 0, .int .i64 0, .int .i64 0, .int .i64 0, .int .i64 0, .int .u64 0, .int .u64 0, .int .i64 0, .int .i64 0, .slice none 0 0, .slice none 0 0, .slice none 0 0, .int .i64 0]
structure StAt (w : World) (S k : Nat) (cap : Nat) (vM vT : Value) (wr : World) : Prop where
  blk : wr.heap[S]? = some (.cells (wcs cap own0 1 vM vT (.slice none 0 0) (.slice none 0 0)) 47)
  own : wr.ownsRow (S + 1) 26 8 vT k ((List.replicate k (startF 3 0 cap 0)).flatMap mc)
  res : wr.heap[w.heap.size]? = some (.cells zeros14 47)
  mem : Cells wr vM (cellsF cap)
  below : Below w.heap.size w wr
  lt : w.heap.size < S
  neM : ∀ y, vM.ownBlock = some y → y < S ∧ y ≠ w.heap.size
section
variable {w wr w' : World} {S k cap : Nat} {vM vT : Value}
theorem StAt.ltS (h : StAt w S k cap vM vT wr) : S < wr.heap.size := (Array.getElem?_eq_some_iff.1 h.blk).1
theorem StAt.keep (h : StAt w S k cap vM vT wr) (hb : Below wr.heap.size wr w') : StAt w S k cap vM vT w' :=
  ⟨(hb.block S h.ltS).trans h.blk, own_below h.own hb, (hb.block _ (Nat.lt_trans h.lt h.ltS)).trans h.res, h.mem.below hb, bcall h.below hb, h.lt, h.neM⟩
theorem StAt.cell (h : StAt w S k cap vM vT wr) (i : Nat) : wr.cell? ⟨S, i, none⟩ = (wcs cap own0 1 vM vT (.slice none 0 0) (.slice none 0 0))[i]? := Joins.cell_of_block h.blk i
theorem StAt.unf (h : StAt w S k cap vM vT wr) (i : Nat) : wr.frozen? ⟨S, i, none⟩ = false := Joins.unfrozen_of_block h.blk i
theorem StAt.rcell (h : StAt w S k cap vM vT wr) (i : Nat) : wr.cell? ⟨w.heap.size, i, none⟩ = zeros14[i]? := Joins.cell_of_block h.res i
theorem StAt.runf (h : StAt w S k cap vM vT wr) (i : Nat) : wr.frozen? ⟨w.heap.size, i, none⟩ = false := Joins.unfrozen_of_block h.res i
/-- one more, in a row of the call's own -/
theorem StAt.next {w5 w6 : World} {o : Obj} {v' : Value} (h : StAt w S k cap vM vT w5) (hown : w6.ownsRow (S + 1) 26 8 v' (k + 1) ((List.replicate k (startF 3 0 cap 0)).flatMap mc ++ mc (startF 3 0 cap 0))) (hg : (w5.alloc o).grownBy w6 vT.ownBlock) :
    StAt w S (k + 1) cap vM v' (w6.setCell ⟨S, 10, none⟩ v') := by
  have h5 := h.keep (bal w5 o)
  have hge := own_ge h.own
  have hS6 : w6.heap[S]? = (w5.alloc o).heap[S]? := hg.block S h5.ltS (fun e => by have := hge S e.symm; omega)
  have hR6 : w6.heap[w.heap.size]? = (w5.alloc o).heap[w.heap.size]? := hg.block _ (Nat.lt_trans h.lt h5.ltS) (fun e => by have := hge _ e.symm; have := h.lt; omega)
  have hlt := h.lt
  refine ⟨?_, ?_, ?_, ?_, ?_, h.lt, h.neM⟩
  · rw [Joins.block_setCell (hS6.trans h5.blk) v']; rfl
  · have := ownsRow_setCell_below hown (a := ⟨S, 10, none⟩) (by simp) v'
    rw [List.replicate_succ', List.flatMap_append, List.flatMap_cons, List.flatMap_nil, List.append_nil]
    exact this
  · rw [Below.heap_setCell w6 ⟨S, 10, none⟩ v' _ (by simp only; omega), hR6]; exact h5.res
  · refine cells_block h5.mem (by simpa [World.setCell] using hg.size) fun _ y hy hl => ?_
    have hy' := h.neM y hy
    rw [Below.heap_setCell w6 ⟨S, 10, none⟩ v' _ (by simp only; omega)]
    exact hg.block y hl (fun e => by have := hge y e.symm; omega)
  · exact (h5.below.grown hg (by have := h5.ltS; omega) (fun y hy => by have := hge y hy; omega)).setCell (p := ⟨S, 10, none⟩) (by simp only; omega) v'
end
/-- what start hands back -/
def StartEnd (w : World) (cap : Nat) (e : Ending) (w' : World) : Prop :=
  ∃ A c g ct, e = .returned (.agg #[.slice A (cap + 2) c, .int .i64 cap, .int .i64 0, .int .i64 0, .int .i64 0, .int .i64 0, .int .u64 0, .int .u64 0, .int .i64 0, .int .i64 1, .slice (some ⟨g, 0, none⟩) 3 ct, .slice none 0 0, .slice none 0 0, .int .i64 1]) ∧
    (cap + 2 ≤ c ∧ c ≤ 9223372036854775807) ∧ (3 ≤ ct ∧ ct ≤ 9223372036854775807) ∧ Cells w' (.slice A (cap + 2) c) (cellsF cap) ∧ w'.ownsRow 0 26 8 (.slice (some ⟨g, 0, none⟩) 3 ct) 3 ([startF 3 0 cap 0, startF 3 0 cap 0, startF 3 0 cap 0].flatMap mc) ∧
    Below w.heap.size w w' ∧ (∀ y, (Value.slice A (cap + 2) c).ownBlock = some y → y ≠ g) ∧ w.heap.size ≤ g

theorem own_block {w w' : World} {base n size : Nat} {e : TypeId} {v : Value} {xs : List Value} (h : w.ownsRow base e size v n xs) (hk : ∀ y, v.ownBlock = some y → w'.heap[y]? = w.heap[y]?) : w'.ownsRow base e size v n xs := by
  refine ⟨h.1, ?_⟩
  rcases h.2 with h0 | ⟨g, cap, cur, rfl, hg, hh, hr⟩
  · exact .inl h0
  · exact .inr ⟨g, cap, cur, rfl, hg, (hk g rfl).trans hh, hr⟩
theorem start_fin {w wr : World} {S cap c g ct : Nat} {A : Option Addr} (hA : StAt w S 3 cap (.slice A (cap + 2) c) (.slice (some ⟨g, 0, none⟩) 3 ct) wr) (hc : cap + 2 ≤ c ∧ c ≤ 9223372036854775807) :
    StartEnd w cap (.returned (.agg #[.slice A (cap + 2) c, .int .i64 cap, .int .i64 0, .int .i64 0, .int .i64 0, .int .i64 0, .int .u64 0, .int .u64 0, .int .i64 0, .int .i64 1, .slice (some ⟨g, 0, none⟩) 3 ct, .slice none 0 0, .slice none 0 0, .int .i64 1]))
      ((((((((((((((wr.setCell ⟨w.heap.size, 0, none⟩ (.slice A (cap + 2) c)).setCell ⟨w.heap.size, 1, none⟩ (.int .i64 cap)).setCell ⟨w.heap.size, 2, none⟩ (.int .i64 0)).setCell ⟨w.heap.size, 3, none⟩ (.int .i64 0)).setCell ⟨w.heap.size, 4, none⟩ (.int .i64 0)).setCell ⟨w.heap.size, 5, none⟩ (.int .i64 0)).setCell ⟨w.heap.size, 6, none⟩ (.int .u64 0)).setCell ⟨w.heap.size, 7, none⟩ (.int .u64 0)).setCell ⟨w.heap.size, 8, none⟩ (.int .i64 0)).setCell ⟨w.heap.size, 9, none⟩ (.int .i64 1)).setCell ⟨w.heap.size, 10, none⟩ (.slice (some ⟨g, 0, none⟩) 3 ct)).setCell ⟨w.heap.size, 11, none⟩ (.slice none 0 0)).setCell ⟨w.heap.size, 12, none⟩ (.slice none 0 0)).setCell ⟨w.heap.size, 13, none⟩ (.int .i64 1)) := by
  obtain ⟨A_, c_, e_, hT1, hT2⟩ := own_form hA.own
  injection e_ with e1_ e2_ e3_
  subst e3_
  unfold maxLen at hT2
  have hg := (hA.own.lt g rfl).1
  have hlt := hA.lt
  have far : ∀ y, y ≠ w.heap.size → ((((((((((((((wr.setCell ⟨w.heap.size, 0, none⟩ (.slice A (cap + 2) c)).setCell ⟨w.heap.size, 1, none⟩ (.int .i64 cap)).setCell ⟨w.heap.size, 2, none⟩ (.int .i64 0)).setCell ⟨w.heap.size, 3, none⟩ (.int .i64 0)).setCell ⟨w.heap.size, 4, none⟩ (.int .i64 0)).setCell ⟨w.heap.size, 5, none⟩ (.int .i64 0)).setCell ⟨w.heap.size, 6, none⟩ (.int .u64 0)).setCell ⟨w.heap.size, 7, none⟩ (.int .u64 0)).setCell ⟨w.heap.size, 8, none⟩ (.int .i64 0)).setCell ⟨w.heap.size, 9, none⟩ (.int .i64 1)).setCell ⟨w.heap.size, 10, none⟩ (.slice (some ⟨g, 0, none⟩) 3 ct)).setCell ⟨w.heap.size, 11, none⟩ (.slice none 0 0)).setCell ⟨w.heap.size, 12, none⟩ (.slice none 0 0)).setCell ⟨w.heap.size, 13, none⟩ (.int .i64 1)).heap[y]? = wr.heap[y]? := by
    intro y hy
    have h' : ¬ w.heap.size = y := fun e => hy e.symm
    simp only [World.setCell, Array.getElem?_modify]
    simp [h']
  refine ⟨A, c, g, ct, rfl, hc, ⟨hT1, by omega⟩, ?_, ?_, ?_, ?_, by omega⟩
  · exact cells_block hA.mem (by simp [World.setCell]) fun _ y hy _ => far y (hA.neM y hy).2
  · exact own_block (own_base hA.own (Nat.zero_le _)) fun y hy => far y (by simp only [Value.ownBlock, Option.some.injEq] at hy; omega)
  · have h := hA.below
    exact ((((((((((((((h.setCell (p := ⟨w.heap.size, 0, none⟩) (Nat.le_refl _) _).setCell (p := ⟨w.heap.size, 1, none⟩) (Nat.le_refl _) _).setCell (p := ⟨w.heap.size, 2, none⟩) (Nat.le_refl _) _).setCell (p := ⟨w.heap.size, 3, none⟩) (Nat.le_refl _) _).setCell (p := ⟨w.heap.size, 4, none⟩) (Nat.le_refl _) _).setCell (p := ⟨w.heap.size, 5, none⟩) (Nat.le_refl _) _).setCell (p := ⟨w.heap.size, 6, none⟩) (Nat.le_refl _) _).setCell (p := ⟨w.heap.size, 7, none⟩) (Nat.le_refl _) _).setCell (p := ⟨w.heap.size, 8, none⟩) (Nat.le_refl _) _).setCell (p := ⟨w.heap.size, 9, none⟩) (Nat.le_refl _) _).setCell (p := ⟨w.heap.size, 10, none⟩) (Nat.le_refl _) _).setCell (p := ⟨w.heap.size, 11, none⟩) (Nat.le_refl _) _).setCell (p := ⟨w.heap.size, 12, none⟩) (Nat.le_refl _) _).setCell (p := ⟨w.heap.size, 13, none⟩) (Nat.le_refl _) _)
  · intro y hy
    have := (hA.neM y hy).1
    omega

set_option maxRecDepth 100000 in
set_option maxHeartbeats 8000000 in
theorem start_any (cap : Nat) (hc1 : 1 ≤ cap) (hc : cap ≤ 64) (w : World) : Calls Try.prog 20 #[.int .i64 cap] w (StartEnd w cap) := by
  obtain ⟨i0, hi, hz0, hz1, hz2⟩ := info_parts infoMach
  have HI6 := hide (show I6 (cap : Int) by unfold I6; omega)
  have HCL := hide (show (cellsF (cap : Int)).length = cap + 2 by have := cellsF_len (cap : Int); omega)
  obtain ⟨w1, e1⟩ : ∃ w1, w.alloc (.cells zeros14 47) = w1 := ⟨_, rfl⟩
  have hb1 : Below w.heap.size w w1 := by rw [← e1]; exact bal _ _
  have HR1 := hide (show w1.heap[w.heap.size]? = some (.cells zeros14 47) by rw [← e1]; exact heap_alloc_new w _)
  have hs1 : w.heap.size < w1.heap.size := by rw [← e1]; simp
  have HE1 := hide (show w.alloc (.cells #[.slice none 0 0, .int .i64 0, .int .i64 0, .int .i64 0, .int .i64 0, .int .i64 0, .int .u64 0, .int .u64 0, .int .i64 0, .int .i64 0, .slice none 0 0, .slice none 0 0, .slice none 0 0, .int .i64 0] 47) = w1 from e1)
  clear e1
  go_enter Try.func20, Try.ntmps20
  go_wp2_with fail
  rw [HE1.out]
  (with_reducible refine (Cells_any cap HI6.out (cap + 2) HCL.out _).mono ?_)
  rintro e w2 ⟨A, c, rfl, ⟨hc1_, hc2_⟩, hC, hb2⟩
  have hs2 := hb2.size
  obtain ⟨w3, e3⟩ : ∃ w3, w2.alloc (.cells (wcs cap own0 1 (.slice A (cap + 2) c) (.slice none 0 0) (.slice none 0 0) (.slice none 0 0)) 47) = w3 := ⟨_, rfl⟩
  have hb3 : Below w2.heap.size w2 w3 := by rw [← e3]; exact bal _ _
  have HST := hide (show StAt w w2.heap.size 0 cap (.slice A (cap + 2) c) (.slice none 0 0) w3 from
    ⟨by rw [← e3]; exact heap_alloc_new w2 _, World.ownsRow_nil _ _ _ _, ((hb3.block _ (by omega)).trans (hb2.block _ hs1)).trans HR1.out, hC.below hb3, bcall (bcall hb1 hb2) hb3, by omega, fun y hy => by
      obtain ⟨b0, o0, e0, hlt, -⟩ := cells_at hC (k := 0) (by rw [HCL.out]; omega)
      subst e0
      simp only [Value.ownBlock, Option.some.injEq] at hy
      subst hy
      refine ⟨hlt, fun e => ?_⟩
      obtain ⟨b1, o1, e1, -, h1⟩ := cells_at hC (k := 0) (by rw [HCL.out]; omega)
      obtain ⟨b2, o2, e2, -, h2⟩ := cells_at hC (k := 1) (by rw [HCL.out]; omega)
      obtain ⟨b3, o3, e3', -, h3⟩ := cells_at hC (k := 2) (by rw [HCL.out]; omega)
      injection e1 with e1; injection e1 with e1 e1'; subst e1; subst e1'
      injection e2 with e2; injection e2 with e2 e2'; subst e2; subst e2'
      injection e3' with e3'; injection e3' with e3' e3''; subst e3'; subst e3''
      rw [e] at h1 h2 h3
      rw [Joins.cell_of_block ((hb2.block _ hs1).trans HR1.out)] at h1 h2 h3
      match o0, h1, h2, h3 with
      | 0, h1, _, _ => simp [zeros14] at h1
      | 1, h1, _, _ => simp [zeros14] at h1
      | 2, h1, _, _ => simp [zeros14] at h1
      | 3, h1, _, _ => simp [zeros14] at h1
      | 4, h1, _, _ => simp [zeros14] at h1
      | 5, h1, _, _ => simp [zeros14] at h1
      | 6, _, _, h3 => simp [zeros14] at h3
      | 7, _, h2, _ => simp [zeros14] at h2
      | 8, h1, _, _ => simp [zeros14] at h1
      | 9, h1, _, _ => simp [zeros14] at h1
      | 10, h1, _, _ => simp [zeros14] at h1
      | 11, h1, _, _ => simp [zeros14] at h1
      | 12, h1, _, _ => simp [zeros14] at h1
      | 13, h1, _, _ => simp [zeros14] at h1
      | _ + 14, h1, _, _ => simp [zeros14] at h1⟩)
  have HE3 := hide (show w2.alloc (.cells #[.slice A (cap + 2) c, .int .i64 cap, .int .i64 0, .int .i64 0, .int .i64 0, .int .i64 0, .int .u64 0, .int .u64 0, .int .i64 0, .int .i64 1, .slice none 0 0, .slice none 0 0, .slice none 0 0, .int .i64 1] 47) = w3 from e3)
  clear e3 hC hb2 hb3 hb1
  go_wp2
  go_loopw [4] (fun iv wr => ∃ (k : Nat) (vT : Value), k ≤ 3 ∧ iv = .int .i64 k ∧ Hid (StAt w w2.heap.size k cap (.slice A (cap + 2) c) vT wr)) (fun iv _ => 3 - (Go.RowKit.intOf iv).toNat)
  case atStart =>
    rw [HE3.out]
    exact ⟨0, _, by omega, rfl, HST⟩
  case round =>
    obtain ⟨k, vT, hk, rfl, HA⟩ := hrel
    obtain ⟨AT, cT, rfl, hT1, hT2⟩ := own_form HA.out.own
    unfold maxLen at hT2
    by_cases hlt : k < 3
    · have hlti : (k : Int) < 3 := by omega
      have y10 : wr.cell? ⟨w2.heap.size, 10, none⟩ = some (.slice AT k cT) := HA.out.cell 10
      go_wp2
      go_region_law (first
        | (go_simp; go_at_call 18; (with_reducible refine (Start_any 3 0 cap 0 _).mono ?_); rintro e w5 ⟨rfl, hbd⟩; have hb5 := undrew hbd; have HA5 := hide (HA.out.keep hb5); clear y10; have y10 : w5.cell? ⟨w2.heap.size, 10, none⟩ = some (.slice AT k cT) := HA5.out.cell 10; have hs5 := HA5.out.ltS; clear hbd hb5)
        | (refine step_append_own_g rfl _ _ 44 rfl (w2.heap.size + 1) 26 i0 (.agg #[.int .i64 0, .int .i64 0, .int .i64 0, .int .i64 0, .int .u64 0, .int .u64 0, .int .i64 0, .int .i64 0]) 8 64 Try.underlying44 hi hz0 hz1 hz2 rfl (by decide) _ _ _ rfl (HA5.out.own.alloc _) ⟨_, 0, none⟩ 1 1 [.int .i64 3, .int .i64 0, .int .i64 0, .int .i64 cap, .int .u64 0, .int .u64 0, .int .i64 0, .int .i64 0] rfl rfl (row_at _ _ _ (by simp)) (by simp [Value.oneCell']) (by simp only [maxLen]; omega) (by omega) (by simp; omega) ?_; intro v6 w6 hown6 hgrow6; have HN := hide (HA5.out.next hown6 hgrow6); have f10 : w6.frozen? ⟨w2.heap.size, 10, none⟩ = false := (World.frozen?_of_block (hgrow6.block w2.heap.size (by simp; omega) (fun e => by have := own_ge HA5.out.own w2.heap.size e.symm; omega))).trans ((HA5.out.keep (bal _ _)).unf 10); have g10 : w6.cell? ⟨w2.heap.size, 10, none⟩ = some (.slice AT k cT) := (World.cell?_of_block (hgrow6.block w2.heap.size (by simp; omega) (fun e => by have := own_ge HA5.out.own w2.heap.size e.symm; omega))).trans ((HA5.out.keep (bal _ _)).cell 10); obtain ⟨A6, c6, hv6, -, -⟩ := own_form hown6; subst hv6; clear hown6 hgrow6))
      all_goals
        go_wp2
        go_roundw
        case rel => exact ⟨k + 1, _, by omega, by go_num, HN⟩
        case measure => simp [Go.RowKit.intOf]; omega
    · obtain rfl : k = 3 := by omega
      obtain ⟨g, rfl⟩ : ∃ g, AT = some ⟨g, 0, none⟩ := by
        rcases HA.out.own.2 with ⟨h, h0⟩ | ⟨g, cap', cur, h, _⟩
        · omega
        · injection h with h; exact ⟨g, h⟩
      have y0 : wr.cell? ⟨w2.heap.size, 0, none⟩ = some (.slice A (cap + 2) c) := HA.out.cell 0
      have y1 : wr.cell? ⟨w2.heap.size, 1, none⟩ = some (.int .i64 cap) := HA.out.cell 1
      have y2 : wr.cell? ⟨w2.heap.size, 2, none⟩ = some (.int .i64 0) := HA.out.cell 2
      have y3 : wr.cell? ⟨w2.heap.size, 3, none⟩ = some (.int .i64 0) := HA.out.cell 3
      have y4 : wr.cell? ⟨w2.heap.size, 4, none⟩ = some (.int .i64 0) := HA.out.cell 4
      have y5 : wr.cell? ⟨w2.heap.size, 5, none⟩ = some (.int .i64 0) := HA.out.cell 5
      have y6 : wr.cell? ⟨w2.heap.size, 6, none⟩ = some (.int .u64 0) := HA.out.cell 6
      have y7 : wr.cell? ⟨w2.heap.size, 7, none⟩ = some (.int .u64 0) := HA.out.cell 7
      have y8 : wr.cell? ⟨w2.heap.size, 8, none⟩ = some (.int .i64 0) := HA.out.cell 8
      have y9 : wr.cell? ⟨w2.heap.size, 9, none⟩ = some (.int .i64 1) := HA.out.cell 9
      have y10 : wr.cell? ⟨w2.heap.size, 10, none⟩ = some (.slice (some ⟨g, 0, none⟩) 3 cT) := HA.out.cell 10
      have y11 : wr.cell? ⟨w2.heap.size, 11, none⟩ = some (.slice none 0 0) := HA.out.cell 11
      have y12 : wr.cell? ⟨w2.heap.size, 12, none⟩ = some (.slice none 0 0) := HA.out.cell 12
      have y13 : wr.cell? ⟨w2.heap.size, 13, none⟩ = some (.int .i64 1) := HA.out.cell 13
      have r0 := HA.out.rcell 0
      have f0 := HA.out.runf 0
      have r1 := HA.out.rcell 1
      have f1 := HA.out.runf 1
      have r2 := HA.out.rcell 2
      have f2 := HA.out.runf 2
      have r3 := HA.out.rcell 3
      have f3 := HA.out.runf 3
      have r4 := HA.out.rcell 4
      have f4 := HA.out.runf 4
      have r5 := HA.out.rcell 5
      have f5 := HA.out.runf 5
      have r6 := HA.out.rcell 6
      have f6 := HA.out.runf 6
      have r7 := HA.out.rcell 7
      have f7 := HA.out.runf 7
      have r8 := HA.out.rcell 8
      have f8 := HA.out.runf 8
      have r9 := HA.out.rcell 9
      have f9 := HA.out.runf 9
      have r10 := HA.out.rcell 10
      have f10 := HA.out.runf 10
      have r11 := HA.out.rcell 11
      have f11 := HA.out.runf 11
      have r12 := HA.out.rcell 12
      have f12 := HA.out.runf 12
      have r13 := HA.out.rcell 13
      have f13 := HA.out.runf 13
      simp only [zeros14] at r0 r1 r2 r3 r4 r5 r6 r7 r8 r9 r10 r11 r12 r13
      have HF := hide (start_fin HA.out ⟨hc1_, hc2_⟩)
      have hltS : w.heap.size ≠ w2.heap.size := by have := HA.out.lt; omega
      go_wp2
      exact bodyPost_ret (v := .agg #[.slice A (cap + 2) c, .int .i64 cap, .int .i64 0, .int .i64 0, .int .i64 0, .int .i64 0, .int .u64 0, .int .u64 0, .int .i64 0, .int .i64 1, .slice (some ⟨g, 0, none⟩) 3 cT, .slice none 0 0, .slice none 0 0, .int .i64 1]) (by simp [results, Try.results20, go_sem, r0, r1, r2, r3, r4, r5, r6, r7, r8, r9, r10, r11, r12, r13]) rfl HF.out

/-- the law's world, as it begins -/
theorem start_wat {w w3 : World} {cap c g ct : Nat} {A : Option Addr} (hC : Cells w (.slice A (cap + 2) c) (cellsF cap)) (hT : w.ownsRow 0 26 8 (.slice (some ⟨g, 0, none⟩) 3 ct) 3 ([startF 3 0 cap 0, startF 3 0 cap 0, startF 3 0 cap 0].flatMap mc)) (hne : ∀ y, (Value.slice A (cap + 2) c).ownBlock = some y → y ≠ g) (hcap : 1 ≤ cap ∧ cap ≤ 64)
    (e : w.alloc (.cells #[.slice A (cap + 2) c, .int .i64 cap, .int .i64 0, .int .i64 0, .int .i64 0, .int .i64 0, .int .u64 0, .int .u64 0, .int .i64 0, .int .i64 1, .slice (some ⟨g, 0, none⟩) 3 ct, .slice none 0 0, .slice none 0 0, .int .i64 1] 47) = w3) :
    Wat w3 w.heap.size g ct cap (startW cap) (.slice A (cap + 2) c) (.slice none 0 0) (.slice none 0 0) := by
  have hb : Below w.heap.size w w3 := by rw [← e]; exact bal _ _
  have hg := (hT.lt g rfl).2
  have hl : (cellsF (cap : Int)).length = cap + 2 := by have := cellsF_len (cap : Int); omega
  have ec : cellsF (cap : Int) = 1 :: 1 :: List.replicate cap 0 := by
    unfold cellsF
    rw [show (min (max (cap : Int) 1) 64).toNat = cap by omega]
  refine ⟨by rw [← e]; exact heap_alloc_new w _, ?_, own_below hT hb, Sl.nil_, Sl.nil_, ?_, fun x hx => (by simp [Value.ownBlock] at hx), fun x hx => (by simp [Value.ownBlock] at hx), by omega, rfl⟩
  · have := hC.below hb
    rw [ec] at this
    exact this
  · intro x hx
    refine ⟨?_, hne x hx⟩
    obtain ⟨b0, o0, e0, hlt, -⟩ := cells_at hC (k := 0) (by rw [hl]; omega)
    subst e0
    simp only [Value.ownBlock, Option.some.injEq] at hx
    omega
/-- where the schedule has come -/
structure SpAt (w3 : World) (B g ct n L : Nat) (X : Nat) (d : Dw) (vM vP vG : Value) (wr : World) : Prop where
  at_ : Wat wr B g ct n d vM vP vG
  fr : Fr w3 B g wr
  wu : WU (2 * X + 1) L d
end Go.Proofs.Ythjdjkcdlknhbaa
/- Layer deque: what the laws over a schedule share. -/
namespace Go.Proofs.Ythjdjkcdlknhbaa
open Go.RowKit Go.WideShapes Go.ChangeShapes Go.ChangeAt

theorem run_cu (k p s q b t x u : Int) (v : Value) (m : List Int) (w : World) (h : Cells w v m) (hbig : m.length * 8 ≤ 140737488351232) (hm : AllU m) (hd : McU ⟨k, p, s, q, b, t, x, u⟩) (most : Nat) (M : List Int) (k1 p1 s1 q1 b1 t1 x1 u1 : Int) (N : Nat)
    (hr : runF most m ⟨k, p, s, q, b, t, x, u⟩ = (M, ⟨k1, p1, s1, q1, b1, t1, x1, u1⟩, N)) (n : Nat) (hn : m.length = n) (hmost : most ≤ 1000) (mi Ni : Int) (hmi : (most : Int) = mi) (hNi : (N : Int) = Ni) :
    Calls Try.prog 26 #[v, mvv k p s q b t x u, .int .i64 mi] w fun e w' => ∃ A c, e = .returned (.tuple #[.slice A n c, mvv k1 p1 s1 q1 b1 t1 x1 u1, .int .i64 Ni]) ∧ (n ≤ c ∧ c ≤ 9223372036854775807) ∧ M.length = n ∧ Cells w' (.slice A n c) M ∧ Below w.heap.size w w' ∧ AllU M ∧ McU ⟨k1, p1, s1, q1, b1, t1, x1, u1⟩ := by
  subst hn hmi hNi
  refine (run_any k p s q b t x u v m w h hbig hm hd most hmost).mono ?_
  rw [hr]
  rintro e w' ⟨A, c, rfl, h1, h2, h3, h4, h5, h6⟩
  exact ⟨A, c, rfl, h1, h2, h3, h4, h5, h6⟩
/-- three numbers of 64 bits, one behind the other, are in no machine's box -/
theorem not_box {w : World} {A : Option Addr} {L c R : Nat} {m : List Int} {d : Mc} (h : Cells w (.slice A L c) m) (h3 : 3 ≤ m.length) (hb : Mb w R d) : 0 < m.length → ∀ y, (Value.slice A L c).ownBlock = some y → y ≠ R := by
  intro _ y hy e
  subst e
  obtain ⟨b0, o0, rfl, -, c0⟩ := cells_at h (k := 0) (by omega)
  obtain ⟨b1, o1, e1, -, c1⟩ := cells_at h (k := 1) (by omega)
  obtain ⟨b2, o2, e2, -, c2⟩ := cells_at h (k := 2) (by omega)
  injection e1 with e1; injection e1 with e1 e1'; subst e1; subst e1'
  injection e2 with e2; injection e2 with e2 e2'; subst e2; subst e2'
  simp only [Value.ownBlock, Option.some.injEq] at hy
  subst hy
  rw [hb.cell] at c0 c1 c2
  match o0, c0, c1, c2 with
  | 0, c0, _, _ => simp [mcs] at c0
  | 1, c0, _, _ => simp [mcs] at c0
  | 2, c0, _, _ => simp [mcs] at c0
  | 3, c0, _, _ => simp [mcs] at c0
  | 4, _, _, c2 => simp [mcs] at c2
  | 5, _, c1, _ => simp [mcs] at c1
  | 6, c0, _, _ => simp [mcs] at c0
  | 7, c0, _, _ => simp [mcs] at c0
  | _ + 8, c0, _, _ => simp [mcs] at c0
theorem bytes_at {w : World} {A : Option Addr} {n c k : Nat} {l : List Int} (h : Bytes w (.slice A n c) l) (hk : k < l.length) :
    ∃ b off, A = some ⟨b, off, none⟩ ∧ w.cell? ⟨b, off + k, none⟩ = some (.int .u8 l[k]) := by
  obtain ⟨A', c', e, h1, h2, h3⟩ := h
  injection e with e1 e2 e3
  subst e1
  obtain ⟨b, off, rfl, hb, hc⟩ := h3 (by omega)
  refine ⟨b, off, rfl, ?_⟩
  have := hc k l[k] (List.getElem?_eq_getElem hk) 0 (.int .u8 l[k]) rfl
  simpa using this
theorem ints_form {w : World} {v : Value} {l : List Int} (h : Ints w v l) : ∃ A c, v = .slice A l.length c ∧ l.length ≤ c ∧ c ≤ 9223372036854775807 := by
  obtain ⟨A, c, rfl, h1, h2, -⟩ := h
  exact ⟨A, c, rfl, h1, by unfold maxLen at h2; omega⟩

end Go.Proofs.Ythjdjkcdlknhbaa
