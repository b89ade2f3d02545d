/- Layer plan: the law's Maker.op. Written by tools/genplanop.py. -/
import Derived.Deep.Cut
import Derived.Test.YtdmbcjckgfjcaaaGreatDoorRag
namespace Go.Proofs.YtdmbcjckgfjcaaaGreatDoor
open Go.RowKit Go.Shelf Go.Proofs Go.Joins
theorem belowQ {n : Nat} {a b : World} (h : Below n a b) : Below n a b.drew := ⟨h.os, h.tape, h.output, h.size, h.block⟩
theorem balQ (w : World) (o : Obj) : Below w.heap.size w (w.alloc o) := (Below.refl _ _).alloc (Nat.le_refl _) o
theorem wrq (x : Int) (h0 : 0 ≤ x) (h1 : x ≤ 255) : IntKind.i64.wrap x = x := by simp [IntKind.wrap, IntKind.bits, IntKind.signed]; omega
theorem byteG_rng {l : List Int} (hr : ∀ b ∈ l, 0 ≤ b ∧ b ≤ 255) (i : Nat) : 0 ≤ byteG l i ∧ byteG l i ≤ 255 := by
  by_cases h : i < l.length
  · rw [byteG_lt h]; exact hr _ (List.getElem_mem h)
  · rw [byteG_ge (by omega)]; decide
theorem byte_c (M : Nat) (v : Value) (l : List Int) (i : Nat) (w : World) (hM : Mk w M v l i) (hl : Bytes w v l) (hr : ∀ b ∈ l, 0 ≤ b ∧ b ≤ 255) (hne : 0 < l.length → ∀ x, v.ownBlock = some x → x ≠ M) (x : Int) (hx : byteG l i = x) :
    Calls Tryz.prog 35 #[.pointer (some ⟨M, 0, none⟩)] w fun e w' => e = .returned (.int .i64 x) ∧ Mk w' M v l (i + 1) ∧ w.grownBy w' (some M) := by
  subst hx; exact byte_any M v l i w hM hl hr hne
theorem Mk.below {w w' : World} {M : Nat} {v : Value} {l : List Int} {i : Nat} (h : Mk w M v l i) (hb : Below w.heap.size w w') : Mk w' M v l i := B2.below h hb
theorem Mk.lt {w : World} {M : Nat} {v : Value} {l : List Int} {i : Nat} (h : Mk w M v l i) : M < w.heap.size := B2.lt h
/-- what holds while an op is made -/
structure OpF (w : World) (M : Nat) (v : Value) (l : List Int) (R i : Nat) (X : World) : Prop where
  mk_ : Mk X M v l i
  by_ : Bytes X v l
  gr : w.grownBy X (some M)
  res : B4 99 X R (.int .i64 0) (.int .i64 0) (.int .i64 0) (.int .i64 0)
  vb : 0 < l.length → ∀ x, v.ownBlock = some x → x < w.heap.size
theorem bytes_vb {w : World} {v : Value} {l : List Int} (h : Bytes w v l) : 0 < l.length → ∀ x, v.ownBlock = some x → x < w.heap.size := by
  obtain ⟨A, c, rfl, h1, h2, h3⟩ := h
  intro hl x hx
  obtain ⟨b, off, rfl, hb, hc⟩ := h3 hl
  cases hx; exact hb
theorem bytes_blk {X X' : World} {v : Value} {l : List Int} (h : Bytes X v l) (hs : X.heap.size ≤ X'.heap.size) (hk : 0 < l.length → ∀ x, v.ownBlock = some x → X'.heap[x]? = X.heap[x]?) : Bytes X' v l := by
  obtain ⟨A, c, rfl, h1, h2, h3⟩ := h
  refine ⟨A, c, rfl, h1, h2, fun hl => ?_⟩
  obtain ⟨b, off, rfl, hb, hc⟩ := h3 hl
  refine ⟨b, off, rfl, by omega, fun i p hp j u hu => ?_⟩
  rw [← hc i p hp j u hu]
  have := hk hl b rfl
  unfold World.cell?
  simp only [this]
theorem set_sizePl (X : World) (a : Addr) (u : Value) : (X.setCell a u).heap.size = X.heap.size := by simp [World.setCell]
theorem grown_setB {w X : World} {M B : Nat} (h : w.grownBy X (some M)) (hB : w.heap.size ≤ B) (i : Nat) (u : Value) : w.grownBy (X.setCell ⟨B, i, none⟩ u) (some M) :=
  ⟨h.os, h.tape, h.output, by rw [set_sizePl]; exact h.size, fun k hk hr => (Below.heap_setCell X ⟨B, i, none⟩ u k (by show k ≠ B; omega)).trans (h.block k hk hr)⟩
section
variable {w X X' : World} {M R i : Nat} {v : Value} {l : List Int}
theorem OpF.below (h : OpF w M v l R i X) (hb : Below X.heap.size X X') : OpF w M v l R i X' := ⟨h.mk_.below hb, h.by_.below hb, grown_trans2 h.gr (grown_of_below hb _), h.res.below hb, h.vb⟩
theorem OpF.set (h : OpF w M v l R i X) {B : Nat} (hB : w.heap.size ≤ B) (hM : M < w.heap.size) (hR : R ≠ B) (j : Nat) (u : Value) : OpF w M v l R i (X.setCell ⟨B, j, none⟩ u) :=
  ⟨⟨(Below.heap_setCell X ⟨B, j, none⟩ u M (by show M ≠ B; omega)).trans h.mk_.blk⟩, bytes_blk h.by_ (by rw [set_sizePl]; exact Nat.le_refl _) (fun hl x hx => Below.heap_setCell X ⟨B, j, none⟩ u x (by have := h.vb hl x hx; show x ≠ B; omega)), grown_setB h.gr hB j u, h.res.other u hR, h.vb⟩
theorem OpF.call (h : OpF w M v l R i X) (hM : Mk X' M v l (i + 1)) (hg : X.grownBy X' (some M)) (hR : R ≠ M) (hne : 0 < l.length → ∀ x, v.ownBlock = some x → x ≠ M) : OpF w M v l R (i + 1) X' :=
  ⟨hM, bytes_grown h.by_ hg hne, grown_trans2 h.gr hg, ⟨(hg.block R h.res.lt (by intro e; injection e with e; exact hR e)).trans h.res.blk⟩, h.vb⟩
/-- a block that is kept -/
def Bk (X : World) (A : Nat) (o : Obj) : Prop := X.heap[A]? = some o
theorem Bk.lt {A : Nat} {o : Obj} (h : Bk X A o) : A < X.heap.size := (Array.getElem?_eq_some_iff.1 h).1
theorem Bk.below {A : Nat} {o : Obj} (h : Bk X A o) (hb : Below X.heap.size X X') : Bk X' A o := (hb.block A h.lt).trans h
theorem Bk.call {A : Nat} {o : Obj} (h : Bk X A o) (hg : X.grownBy X' (some M)) (hA : A ≠ M) : Bk X' A o := (hg.block A h.lt (by intro e; injection e with e; exact hA e)).trans h
theorem Bk.new (X : World) (o : Obj) : Bk (X.alloc o) X.heap.size o := heap_alloc_new X o
theorem bk_new (X : World) (o : Obj) : ∃ Z, X.alloc o = Z ∧ Below X.heap.size X Z ∧ Bk Z X.heap.size o := ⟨_, rfl, balQ _ _, Bk.new _ _⟩
theorem kind_cell {A J : Nat} (h : Bk X A (.cells #[.int .i64 1, .int .i64 1, .int .i64 2, .int .i64 2, .int .i64 2, .int .i64 3, .int .i64 4, .int .i64 5] 3)) (hJ : J < 8) (x : Int) (hx : (x % 8).toNat = J) : X.cell? ⟨A, J, none⟩ = some (.int .i64 (kindT x)) := by
  rw [cell_of_row X A J _ 3 (0, 0) h]
  unfold kindT
  rw [hx]
  match J, hJ with
  | 0, _ => rfl
  | 1, _ => rfl
  | 2, _ => rfl
  | 3, _ => rfl
  | 4, _ => rfl
  | 5, _ => rfl
  | 6, _ => rfl
  | 7, _ => rfl
  | n + 8, h => exact absurd h (by omega)
end
def OpC (w : World) (M : Nat) (v : Value) (l : List Int) (R i : Nat) (k r : Int) (B : Nat) (X : World) : Prop :=
  OpF w M v l R i X ∧ R < B ∧ B4 99 X B (.int .i64 k) (.int .i64 r) (.int .i64 0) (.int .i64 0)
theorem B4.put {t : TypeId} {w : World} {B : Nat} {x y z u : Value} (h : B4 t w B x y z u) (x' y' z' u' : Value) : B4 t ((((w.setCell ⟨B, 0, none⟩ x').setCell ⟨B, 1, none⟩ y').setCell ⟨B, 2, none⟩ z').setCell ⟨B, 3, none⟩ u') B x' y' z' u' := by
  have h1 := block_setCell h.blk (i := 0) x'
  have h2 := block_setCell h1 (i := 1) y'
  have h3 := block_setCell h2 (i := 2) z'
  exact ⟨by rw [block_setCell h3]; rfl⟩
theorem B4.call {t : TypeId} {X X' : World} {M B : Nat} {x y z u : Value} (h : B4 t X B x y z u) (hg : X.grownBy X' (some M)) (hA : B ≠ M) : B4 t X' B x y z u := ⟨(hg.block B h.lt (by intro e; injection e with e; exact hA e)).trans h.blk⟩
theorem B4.putA {t : TypeId} {w : World} {B : Nat} {x y z u : Value} (h : B4 t w B x y z u) (v : Value) : B4 t (w.setCell ⟨B, 2, none⟩ v) B x y v u := ⟨by rw [block_setCell h.blk]; rfl⟩
theorem B4.putS {t : TypeId} {w : World} {B : Nat} {x y z u : Value} (h : B4 t w B x y z u) (v : Value) : B4 t (w.setCell ⟨B, 3, none⟩ v) B x y z v := ⟨by rw [block_setCell h.blk]; rfl⟩
theorem op_done {w X : World} {M R i B : Nat} {v : Value} {l : List Int} {k r : Int} (hF : OpF w M v l R i X) (hB : Bk X B (.cells #[.int .i64 0, .int .i64 0, .int .i64 0, .int .i64 0] 99)) (hR : R < B) (hw : w.heap.size ≤ R) (hM : M < w.heap.size) :
    OpC w M v l R i k r B ((((X.setCell ⟨B, 0, none⟩ (.int .i64 k)).setCell ⟨B, 1, none⟩ (.int .i64 r)).setCell ⟨B, 2, none⟩ (.int .i64 0)).setCell ⟨B, 3, none⟩ (.int .i64 0)) :=
  ⟨(((hF.set (by omega) hM (by omega) 0 _).set (by omega) hM (by omega) 1 _).set (by omega) hM (by omega) 2 _).set (by omega) hM (by omega) 3 _, hR, B4.put ⟨hB⟩ _ _ _ _⟩
theorem op_ret {w X : World} {M R j : Nat} {v : Value} {l : List Int} (hF : OpF w M v l R j X) (hR : w.heap.size ≤ R) (hM : M < w.heap.size) (k r a s : Value) : ∃ Z, ((((X.setCell ⟨R, 0, none⟩ k).setCell ⟨R, 1, none⟩ r).setCell ⟨R, 2, none⟩ a).setCell ⟨R, 3, none⟩ s) = Z ∧ Mk Z M v l j ∧ w.grownBy Z (some M) ∧ B4 99 Z R k r a s := by
  have h : ∀ {Y : World} (i : Nat) (u : Value), Mk Y M v l j → Mk (Y.setCell ⟨R, i, none⟩ u) M v l j := fun {Y} i u h => ⟨(Below.heap_setCell Y ⟨R, i, none⟩ u M (by show M ≠ R; omega)).trans h.blk⟩
  exact ⟨_, rfl, h _ _ (h _ _ (h _ _ (h _ _ hF.mk_))), grown_setB (grown_setB (grown_setB (grown_setB hF.gr hR _ _) hR _ _) hR _ _) hR _ _, hF.res.put _ _ _ _⟩
set_option maxRecDepth 100000 in
set_option maxHeartbeats 16000000 in
theorem op_any (M : Nat) (v : Value) (l : List Int) (i : Nat) (regs slots : Int) (w : World) (hM : Mk w M v l i) (hl : Bytes w v l) (hr : ∀ b ∈ l, 0 ≤ b ∧ b ≤ 255) (hne : 0 < l.length → ∀ x, v.ownBlock = some x → x ≠ M) (hg : 1 ≤ regs ∧ regs ≤ 4) (hs : 1 ≤ slots ∧ slots ≤ 4) :
    Calls Tryz.prog 37 #[.pointer (some ⟨M, 0, none⟩), .int .i64 regs, .int .i64 slots] w fun e w' => e = .returned (.agg #[.int .i64 (opG (byteG l) regs slots i).1.kind, .int .i64 (opG (byteG l) regs slots i).1.r, .int .i64 (opG (byteG l) regs slots i).1.a, .int .i64 (opG (byteG l) regs slots i).1.s]) ∧ Mk w' M v l (opG (byteG l) regs slots i).2 ∧ w.grownBy w' (some M) := by
  have hMw := hM.lt
  obtain ⟨hg0, hg1⟩ := hg
  obtain ⟨hs0, hs1⟩ := hs
  obtain ⟨x0, hx0⟩ : ∃ x, byteG l (i) = x := ⟨_, rfl⟩
  have hb0 : 0 ≤ x0 ∧ x0 ≤ 255 := by rw [← hx0]; exact byteG_rng hr _
  obtain ⟨x1, hx1⟩ : ∃ x, byteG l (i + 1) = x := ⟨_, rfl⟩
  have hb1 : 0 ≤ x1 ∧ x1 ≤ 255 := by rw [← hx1]; exact byteG_rng hr _
  obtain ⟨x2, hx2⟩ : ∃ x, byteG l (i + 2) = x := ⟨_, rfl⟩
  have hb2 : 0 ≤ x2 ∧ x2 ≤ 255 := by rw [← hx2]; exact byteG_rng hr _
  obtain ⟨x3, hx3⟩ : ∃ x, byteG l (i + 3) = x := ⟨_, rfl⟩
  have hb3 : 0 ≤ x3 ∧ x3 ≤ 255 := by rw [← hx3]; exact byteG_rng hr _
  obtain ⟨J, hJ, hJ8⟩ : ∃ J : Nat, (x0 % 8).toNat = J ∧ J < 8 := ⟨_, rfl, by omega⟩
  obtain ⟨K, hK_⟩ : ∃ K, kindT x0 = K := ⟨_, rfl⟩
  have hkr : K = 1 ∨ K = 2 ∨ K = 3 ∨ K = 4 ∨ K = 5 := by rw [← hK_]; exact kind_rng x0
  obtain ⟨R, hR⟩ : ∃ r, x1 % regs = r := ⟨_, rfl⟩
  have bR : 0 ≤ R ∧ R ≤ 3 := by have h1 := Int.emod_nonneg x1 (show regs ≠ 0 by omega); have h2 := Int.emod_lt_of_pos x1 (show 0 < regs by omega); omega
  obtain ⟨A, hA⟩ : ∃ r, x2 % regs = r := ⟨_, rfl⟩
  have bA : 0 ≤ A ∧ A ≤ 3 := by have h1 := Int.emod_nonneg x2 (show regs ≠ 0 by omega); have h2 := Int.emod_lt_of_pos x2 (show 0 < regs by omega); omega
  obtain ⟨S, hS⟩ : ∃ r, x3 % slots = r := ⟨_, rfl⟩
  have bS : 0 ≤ S ∧ S ≤ 3 := by have h1 := Int.emod_nonneg x3 (show slots ≠ 0 by omega); have h2 := Int.emod_lt_of_pos x3 (show 0 < slots by omega); omega
  have t0 : x0.tmod 8 = (J : Int) := by rw [Int.tmod_eq_emod_of_nonneg hb0.1]; omega
  have tR : x1.tmod regs = R := by rw [Int.tmod_eq_emod_of_nonneg hb1.1]; exact hR
  have wR : IntKind.i64.wrap R = R := wrq R bR.1 (by omega)
  have tA : x2.tmod regs = A := by rw [Int.tmod_eq_emod_of_nonneg hb2.1]; exact hA
  have wA : IntKind.i64.wrap A = A := wrq A bA.1 (by omega)
  have tS : x3.tmod slots = S := by rw [Int.tmod_eq_emod_of_nonneg hb3.1]; exact hS
  have wS : IntKind.i64.wrap S = S := wrq S bS.1 (by omega)
  have wJ : IntKind.i64.wrap (J : Int) = (J : Int) := wrq _ (by omega) (by omega)
  have zr : (regs == 0) = false := by simp; omega
  have zs : (slots == 0) = false := by simp; omega
  have nr : ¬ regs = 0 := by omega
  have ns : ¬ slots = 0 := by omega
  have HO := hide (show opG (byteG l) regs slots i = if K < 3 then (⟨K, R, A, S⟩, i + 4) else if K = 4 then (⟨4, R, A, 0⟩, i + 3) else (⟨K, R, 0, 0⟩, i + 2) by unfold opG; rw [hx0, hx1, hx2, hx3, hK_, hR, hA, hS])
  have HJ := hide hJ
  have HK := hide hK_
  have hJi : (J : Int) < 8 := by omega
  have HX0 := hide hx0
  have HX1 := hide hx1
  have HX2 := hide hx2
  have HX3 := hide hx3
  obtain ⟨w0, e0, hb_, hs_, X0⟩ := b4_new w (.int .i64 0) (.int .i64 0) (.int .i64 0) (.int .i64 0) 99
  have HF0 := hide (show OpF w M v l w.heap.size i w0 from ⟨hM.below hb_, hl.below hb_, grown_of_below hb_ _, X0, bytes_vb hl⟩)
  have HE0 := hide e0
  have HR := hide hr
  have HNE := hide hne
  have hRM : w.heap.size ≠ M := by omega
  have HSZ := hide hs_
  clear hM hl hr hne hx0 hx1 hx2 hx3 hJ hK_ hR hA hS hb0 hb1 hb2 hb3 e0 X0 hb_ hs_
  go_enter Tryz.func37, Tryz.ntmps37
  go_upto_region 1 with (fail)
  rw [HE0.out]
  go_cut [7] from 8 (fun bv wr => ∃ B : Nat, bv = .pointer (some ⟨B, 0, none⟩) ∧ Hid (OpC w M v l w.heap.size (i + 2) K R B wr))
  case first =>
    refine wp_region_B [] (S := fun _ => True) (by kernel_rfl) ?_ (fun hHeld => ?_)
    · exact trivial
    have HF0 := hide (show OpF w M v l w.heap.size i w0.drew from HF0.out.below (belowQ (Below.refl _ _)))
    obtain ⟨D, hD⟩ : ∃ D, w0.drew = D := ⟨_, rfl⟩
    rw [hD] at HF0 ⊢
    clear hD
    refine tp 1 (h := ?_)
    refine tp 6 (h := ?_)
    refine tp 8 (h := ?_)
    refine wpAnyB_ready (rs := [0, 2, 11]) (by kernel_rfl) (by simp) ?_
    refine AllReadyB.cons rfl (fun K hK => ?_) (AllReadyB.cons rfl (fun K hK => ?_) (AllReadyB.cons rfl (fun K hK => ?_) AllReadyB.nil))
    · skip
      go_simp
      obtain ⟨X1, eX1, hb1, hn1⟩ := bk_new D (.cells #[.int .i64 1, .int .i64 1, .int .i64 2, .int .i64 2, .int .i64 2, .int .i64 3, .int .i64 4, .int .i64 5] 3)
      rw [eX1]
      have HF1_X1 := hide (HF0.out.below hb1)
      obtain ⟨C1, hC1⟩ : ∃ C, D.heap.size = C := ⟨_, rfl⟩
      have hge1 : w.heap.size < C1 := by rw [← hC1]; exact HF0.out.res.lt
      rw [hC1] at hn1 ⊢
      have ne1 : C1 ≠ M := by omega
      have HA1_ := hide hn1
      clear hn1 hC1 eX1
      (try go_simp)
      refine hK.out _ _ trivial (fun hHeld => ?_)
      (try simp only [Act.put, List.setIfInBounds_toArray, List.set_cons_zero, List.set_cons_succ])
      refine wpAnyB_ready (rs := [2, 11]) (by kernel_rfl) (by simp) ?_
      refine AllReadyB.cons rfl (fun K hK => ?_) (AllReadyB.cons rfl (fun K hK => ?_) AllReadyB.nil)
      · skip
        go_simp
        go_at_call 35
        (with_reducible refine (byte_c M v l i _ HF1_X1.out.mk_ HF1_X1.out.by_ HR.out HNE.out x0 HX0.out).mono ?_)
        rintro e_ X2 ⟨rfl, hm2, hg2⟩
        have HA2 := hide (HA1_.out.call hg2 ne1)
        have HF2_X2 := hide (HF1_X1.out.call hm2 hg2 hRM HNE.out)
        clear hm2 hg2
        (try go_simp)
        refine hK.out _ _ trivial (fun hHeld => ?_)
        (try simp only [Act.put, List.setIfInBounds_toArray, List.set_cons_zero, List.set_cons_succ])
        refine tp 3 (h := ?_)
        refine tp 4 (h := ?_)
        refine wpAnyB_ready (rs := [5, 7, 11]) (by kernel_rfl) (by simp) ?_
        refine AllReadyB.cons rfl (fun K hK => ?_) (AllReadyB.cons rfl (fun K hK => ?_) (AllReadyB.cons rfl (fun K hK => ?_) AllReadyB.nil))
        · skip
          have cK := kind_cell HA2.out hJ8 x0 HJ.out
          rw [HK.out] at cK
          go_simp
          clear cK
          (try go_simp)
          refine hK.out _ _ trivial (fun hHeld => ?_)
          (try simp only [Act.put, List.setIfInBounds_toArray, List.set_cons_zero, List.set_cons_succ])
          refine wpAnyB_ready (rs := [7, 11]) (by kernel_rfl) (by simp) ?_
          refine AllReadyB.cons rfl (fun K hK => ?_) (AllReadyB.cons rfl (fun K hK => ?_) AllReadyB.nil)
          · skip
            go_simp
            go_at_call 35
            (with_reducible refine (byte_c M v l (i + 1) _ HF2_X2.out.mk_ HF2_X2.out.by_ HR.out HNE.out x1 HX1.out).mono ?_)
            rintro e_ X3 ⟨rfl, hm3, hg3⟩
            have HA3 := hide (HA2.out.call hg3 ne1)
            have HF3_X3 := hide (HF2_X2.out.call hm3 hg3 hRM HNE.out)
            clear hm3 hg3
            (try go_simp)
            refine hK.out _ _ trivial (fun hHeld => ?_)
            (try simp only [Act.put, List.setIfInBounds_toArray, List.set_cons_zero, List.set_cons_succ])
            refine tp 9 (h := ?_)
            refine tp 10 (h := ?_)
            refine wpAnyB_ready (rs := [11]) (by kernel_rfl) (by simp) ?_
            refine AllReadyB.cons rfl (fun K hK => ?_) AllReadyB.nil
            go_simp
            obtain ⟨X4, eX4, hb4, hn4⟩ := bk_new X3 (.cells #[.int .i64 0, .int .i64 0, .int .i64 0, .int .i64 0] 99)
            rw [eX4]
            have HA4 := hide (HA3.out.below hb4)
            have HF4_X4 := hide (HF3_X3.out.below hb4)
            obtain ⟨C4, hC4⟩ : ∃ C, X3.heap.size = C := ⟨_, rfl⟩
            have hge4 : w.heap.size < C4 := by rw [← hC4]; exact HF3_X3.out.res.lt
            rw [hC4] at hn4 ⊢
            have ne4 : C4 ≠ M := by omega
            have HB4_ := hide hn4
            clear hn4 hC4 eX4
            (try go_simp)
            refine hK.out _ _ trivial (fun hHeld => ?_)
            (try simp only [Act.put, List.setIfInBounds_toArray, List.set_cons_zero, List.set_cons_succ])
            refine wpAnyB_ready (rs := [12]) (by kernel_rfl) (by simp) ?_
            refine AllReadyB.cons rfl (fun K hK => ?_) AllReadyB.nil
            obtain ⟨y0, y1, y2, y3⟩ := B4.all ⟨HB4_.out⟩
            obtain ⟨y4, y5, y6, y7⟩ := B4.free ⟨HB4_.out⟩
            go_simp
            (try go_simp)
            refine hK.out _ _ trivial (fun hHeld => ?_)
            (try simp only [Act.put, List.setIfInBounds_toArray, List.set_cons_zero, List.set_cons_succ])
            refine wpAnyB_done (by kernel_rfl) ?_ _
            go_wp2
            go_meet
            exact ⟨_, rfl, hide (op_done HF4_X4.out HB4_.out hge4 (Nat.le_refl _) hMw)⟩
          · skip
            go_simp
            obtain ⟨X3, eX3, hb3, hn3⟩ := bk_new X2 (.cells #[.int .i64 0, .int .i64 0, .int .i64 0, .int .i64 0] 99)
            rw [eX3]
            have HA3 := hide (HA2.out.below hb3)
            have HF3_X3 := hide (HF2_X2.out.below hb3)
            obtain ⟨C3, hC3⟩ : ∃ C, X2.heap.size = C := ⟨_, rfl⟩
            have hge3 : w.heap.size < C3 := by rw [← hC3]; exact HF2_X2.out.res.lt
            rw [hC3] at hn3 ⊢
            have ne3 : C3 ≠ M := by omega
            have HB3_ := hide hn3
            clear hn3 hC3 eX3
            (try go_simp)
            refine hK.out _ _ trivial (fun hHeld => ?_)
            (try simp only [Act.put, List.setIfInBounds_toArray, List.set_cons_zero, List.set_cons_succ])
            refine wpAnyB_ready (rs := [7]) (by kernel_rfl) (by simp) ?_
            refine AllReadyB.cons rfl (fun K hK => ?_) AllReadyB.nil
            go_simp
            go_at_call 35
            (with_reducible refine (byte_c M v l (i + 1) _ HF3_X3.out.mk_ HF3_X3.out.by_ HR.out HNE.out x1 HX1.out).mono ?_)
            rintro e_ X4 ⟨rfl, hm4, hg4⟩
            have HA4 := hide (HA3.out.call hg4 ne1)
            have HB4 := hide (HB3_.out.call hg4 ne3)
            have HF4_X4 := hide (HF3_X3.out.call hm4 hg4 hRM HNE.out)
            clear hm4 hg4
            (try go_simp)
            refine hK.out _ _ trivial (fun hHeld => ?_)
            (try simp only [Act.put, List.setIfInBounds_toArray, List.set_cons_zero, List.set_cons_succ])
            refine tp 9 (h := ?_)
            refine tp 10 (h := ?_)
            refine wpAnyB_ready (rs := [12]) (by kernel_rfl) (by simp) ?_
            refine AllReadyB.cons rfl (fun K hK => ?_) AllReadyB.nil
            obtain ⟨y0, y1, y2, y3⟩ := B4.all ⟨HB4.out⟩
            obtain ⟨y4, y5, y6, y7⟩ := B4.free ⟨HB4.out⟩
            go_simp
            (try go_simp)
            refine hK.out _ _ trivial (fun hHeld => ?_)
            (try simp only [Act.put, List.setIfInBounds_toArray, List.set_cons_zero, List.set_cons_succ])
            refine wpAnyB_done (by kernel_rfl) ?_ _
            go_wp2
            go_meet
            exact ⟨_, rfl, hide (op_done HF4_X4.out HB4.out hge3 (Nat.le_refl _) hMw)⟩
        · skip
          go_simp
          go_at_call 35
          (with_reducible refine (byte_c M v l (i + 1) _ HF2_X2.out.mk_ HF2_X2.out.by_ HR.out HNE.out x1 HX1.out).mono ?_)
          rintro e_ X3 ⟨rfl, hm3, hg3⟩
          have HA3 := hide (HA2.out.call hg3 ne1)
          have HF3_X3 := hide (HF2_X2.out.call hm3 hg3 hRM HNE.out)
          clear hm3 hg3
          (try go_simp)
          refine hK.out _ _ trivial (fun hHeld => ?_)
          (try simp only [Act.put, List.setIfInBounds_toArray, List.set_cons_zero, List.set_cons_succ])
          refine tp 9 (h := ?_)
          refine wpAnyB_ready (rs := [5, 11]) (by kernel_rfl) (by simp) ?_
          refine AllReadyB.cons rfl (fun K hK => ?_) (AllReadyB.cons rfl (fun K hK => ?_) AllReadyB.nil)
          · skip
            have cK := kind_cell HA3.out hJ8 x0 HJ.out
            rw [HK.out] at cK
            go_simp
            clear cK
            (try go_simp)
            refine hK.out _ _ trivial (fun hHeld => ?_)
            (try simp only [Act.put, List.setIfInBounds_toArray, List.set_cons_zero, List.set_cons_succ])
            refine tp 10 (h := ?_)
            refine wpAnyB_ready (rs := [11]) (by kernel_rfl) (by simp) ?_
            refine AllReadyB.cons rfl (fun K hK => ?_) AllReadyB.nil
            go_simp
            obtain ⟨X4, eX4, hb4, hn4⟩ := bk_new X3 (.cells #[.int .i64 0, .int .i64 0, .int .i64 0, .int .i64 0] 99)
            rw [eX4]
            have HA4 := hide (HA3.out.below hb4)
            have HF4_X4 := hide (HF3_X3.out.below hb4)
            obtain ⟨C4, hC4⟩ : ∃ C, X3.heap.size = C := ⟨_, rfl⟩
            have hge4 : w.heap.size < C4 := by rw [← hC4]; exact HF3_X3.out.res.lt
            rw [hC4] at hn4 ⊢
            have ne4 : C4 ≠ M := by omega
            have HB4_ := hide hn4
            clear hn4 hC4 eX4
            (try go_simp)
            refine hK.out _ _ trivial (fun hHeld => ?_)
            (try simp only [Act.put, List.setIfInBounds_toArray, List.set_cons_zero, List.set_cons_succ])
            refine wpAnyB_ready (rs := [12]) (by kernel_rfl) (by simp) ?_
            refine AllReadyB.cons rfl (fun K hK => ?_) AllReadyB.nil
            obtain ⟨y0, y1, y2, y3⟩ := B4.all ⟨HB4_.out⟩
            obtain ⟨y4, y5, y6, y7⟩ := B4.free ⟨HB4_.out⟩
            go_simp
            (try go_simp)
            refine hK.out _ _ trivial (fun hHeld => ?_)
            (try simp only [Act.put, List.setIfInBounds_toArray, List.set_cons_zero, List.set_cons_succ])
            refine wpAnyB_done (by kernel_rfl) ?_ _
            go_wp2
            go_meet
            exact ⟨_, rfl, hide (op_done HF4_X4.out HB4_.out hge4 (Nat.le_refl _) hMw)⟩
          · skip
            go_simp
            obtain ⟨X4, eX4, hb4, hn4⟩ := bk_new X3 (.cells #[.int .i64 0, .int .i64 0, .int .i64 0, .int .i64 0] 99)
            rw [eX4]
            have HA4 := hide (HA3.out.below hb4)
            have HF4_X4 := hide (HF3_X3.out.below hb4)
            obtain ⟨C4, hC4⟩ : ∃ C, X3.heap.size = C := ⟨_, rfl⟩
            have hge4 : w.heap.size < C4 := by rw [← hC4]; exact HF3_X3.out.res.lt
            rw [hC4] at hn4 ⊢
            have ne4 : C4 ≠ M := by omega
            have HB4_ := hide hn4
            clear hn4 hC4 eX4
            (try go_simp)
            refine hK.out _ _ trivial (fun hHeld => ?_)
            (try simp only [Act.put, List.setIfInBounds_toArray, List.set_cons_zero, List.set_cons_succ])
            refine wpAnyB_ready (rs := [5]) (by kernel_rfl) (by simp) ?_
            refine AllReadyB.cons rfl (fun K hK => ?_) AllReadyB.nil
            have cK := kind_cell HA4.out hJ8 x0 HJ.out
            rw [HK.out] at cK
            go_simp
            clear cK
            (try go_simp)
            refine hK.out _ _ trivial (fun hHeld => ?_)
            (try simp only [Act.put, List.setIfInBounds_toArray, List.set_cons_zero, List.set_cons_succ])
            refine tp 10 (h := ?_)
            refine wpAnyB_ready (rs := [12]) (by kernel_rfl) (by simp) ?_
            refine AllReadyB.cons rfl (fun K hK => ?_) AllReadyB.nil
            obtain ⟨y0, y1, y2, y3⟩ := B4.all ⟨HB4_.out⟩
            obtain ⟨y4, y5, y6, y7⟩ := B4.free ⟨HB4_.out⟩
            go_simp
            (try go_simp)
            refine hK.out _ _ trivial (fun hHeld => ?_)
            (try simp only [Act.put, List.setIfInBounds_toArray, List.set_cons_zero, List.set_cons_succ])
            refine wpAnyB_done (by kernel_rfl) ?_ _
            go_wp2
            go_meet
            exact ⟨_, rfl, hide (op_done HF4_X4.out HB4_.out hge4 (Nat.le_refl _) hMw)⟩
        · skip
          go_simp
          obtain ⟨X3, eX3, hb3, hn3⟩ := bk_new X2 (.cells #[.int .i64 0, .int .i64 0, .int .i64 0, .int .i64 0] 99)
          rw [eX3]
          have HA3 := hide (HA2.out.below hb3)
          have HF3_X3 := hide (HF2_X2.out.below hb3)
          obtain ⟨C3, hC3⟩ : ∃ C, X2.heap.size = C := ⟨_, rfl⟩
          have hge3 : w.heap.size < C3 := by rw [← hC3]; exact HF2_X2.out.res.lt
          rw [hC3] at hn3 ⊢
          have ne3 : C3 ≠ M := by omega
          have HB3_ := hide hn3
          clear hn3 hC3 eX3
          (try go_simp)
          refine hK.out _ _ trivial (fun hHeld => ?_)
          (try simp only [Act.put, List.setIfInBounds_toArray, List.set_cons_zero, List.set_cons_succ])
          refine wpAnyB_ready (rs := [5, 7]) (by kernel_rfl) (by simp) ?_
          refine AllReadyB.cons rfl (fun K hK => ?_) (AllReadyB.cons rfl (fun K hK => ?_) AllReadyB.nil)
          · skip
            have cK := kind_cell HA3.out hJ8 x0 HJ.out
            rw [HK.out] at cK
            go_simp
            clear cK
            (try go_simp)
            refine hK.out _ _ trivial (fun hHeld => ?_)
            (try simp only [Act.put, List.setIfInBounds_toArray, List.set_cons_zero, List.set_cons_succ])
            refine wpAnyB_ready (rs := [7]) (by kernel_rfl) (by simp) ?_
            refine AllReadyB.cons rfl (fun K hK => ?_) AllReadyB.nil
            go_simp
            go_at_call 35
            (with_reducible refine (byte_c M v l (i + 1) _ HF3_X3.out.mk_ HF3_X3.out.by_ HR.out HNE.out x1 HX1.out).mono ?_)
            rintro e_ X4 ⟨rfl, hm4, hg4⟩
            have HA4 := hide (HA3.out.call hg4 ne1)
            have HB4 := hide (HB3_.out.call hg4 ne3)
            have HF4_X4 := hide (HF3_X3.out.call hm4 hg4 hRM HNE.out)
            clear hm4 hg4
            (try go_simp)
            refine hK.out _ _ trivial (fun hHeld => ?_)
            (try simp only [Act.put, List.setIfInBounds_toArray, List.set_cons_zero, List.set_cons_succ])
            refine tp 9 (h := ?_)
            refine tp 10 (h := ?_)
            refine wpAnyB_ready (rs := [12]) (by kernel_rfl) (by simp) ?_
            refine AllReadyB.cons rfl (fun K hK => ?_) AllReadyB.nil
            obtain ⟨y0, y1, y2, y3⟩ := B4.all ⟨HB4.out⟩
            obtain ⟨y4, y5, y6, y7⟩ := B4.free ⟨HB4.out⟩
            go_simp
            (try go_simp)
            refine hK.out _ _ trivial (fun hHeld => ?_)
            (try simp only [Act.put, List.setIfInBounds_toArray, List.set_cons_zero, List.set_cons_succ])
            refine wpAnyB_done (by kernel_rfl) ?_ _
            go_wp2
            go_meet
            exact ⟨_, rfl, hide (op_done HF4_X4.out HB4.out hge3 (Nat.le_refl _) hMw)⟩
          · skip
            go_simp
            go_at_call 35
            (with_reducible refine (byte_c M v l (i + 1) _ HF3_X3.out.mk_ HF3_X3.out.by_ HR.out HNE.out x1 HX1.out).mono ?_)
            rintro e_ X4 ⟨rfl, hm4, hg4⟩
            have HA4 := hide (HA3.out.call hg4 ne1)
            have HB4 := hide (HB3_.out.call hg4 ne3)
            have HF4_X4 := hide (HF3_X3.out.call hm4 hg4 hRM HNE.out)
            clear hm4 hg4
            (try go_simp)
            refine hK.out _ _ trivial (fun hHeld => ?_)
            (try simp only [Act.put, List.setIfInBounds_toArray, List.set_cons_zero, List.set_cons_succ])
            refine tp 9 (h := ?_)
            refine wpAnyB_ready (rs := [5]) (by kernel_rfl) (by simp) ?_
            refine AllReadyB.cons rfl (fun K hK => ?_) AllReadyB.nil
            have cK := kind_cell HA4.out hJ8 x0 HJ.out
            rw [HK.out] at cK
            go_simp
            clear cK
            (try go_simp)
            refine hK.out _ _ trivial (fun hHeld => ?_)
            (try simp only [Act.put, List.setIfInBounds_toArray, List.set_cons_zero, List.set_cons_succ])
            refine tp 10 (h := ?_)
            refine wpAnyB_ready (rs := [12]) (by kernel_rfl) (by simp) ?_
            refine AllReadyB.cons rfl (fun K hK => ?_) AllReadyB.nil
            obtain ⟨y0, y1, y2, y3⟩ := B4.all ⟨HB4.out⟩
            obtain ⟨y4, y5, y6, y7⟩ := B4.free ⟨HB4.out⟩
            go_simp
            (try go_simp)
            refine hK.out _ _ trivial (fun hHeld => ?_)
            (try simp only [Act.put, List.setIfInBounds_toArray, List.set_cons_zero, List.set_cons_succ])
            refine wpAnyB_done (by kernel_rfl) ?_ _
            go_wp2
            go_meet
            exact ⟨_, rfl, hide (op_done HF4_X4.out HB4.out hge3 (Nat.le_refl _) hMw)⟩
      · skip
        go_simp
        obtain ⟨X2, eX2, hb2, hn2⟩ := bk_new X1 (.cells #[.int .i64 0, .int .i64 0, .int .i64 0, .int .i64 0] 99)
        rw [eX2]
        have HA2 := hide (HA1_.out.below hb2)
        have HF2_X2 := hide (HF1_X1.out.below hb2)
        obtain ⟨C2, hC2⟩ : ∃ C, X1.heap.size = C := ⟨_, rfl⟩
        have hge2 : w.heap.size < C2 := by rw [← hC2]; exact HF1_X1.out.res.lt
        rw [hC2] at hn2 ⊢
        have ne2 : C2 ≠ M := by omega
        have HB2_ := hide hn2
        clear hn2 hC2 eX2
        (try go_simp)
        refine hK.out _ _ trivial (fun hHeld => ?_)
        (try simp only [Act.put, List.setIfInBounds_toArray, List.set_cons_zero, List.set_cons_succ])
        refine wpAnyB_ready (rs := [2]) (by kernel_rfl) (by simp) ?_
        refine AllReadyB.cons rfl (fun K hK => ?_) AllReadyB.nil
        go_simp
        go_at_call 35
        (with_reducible refine (byte_c M v l i _ HF2_X2.out.mk_ HF2_X2.out.by_ HR.out HNE.out x0 HX0.out).mono ?_)
        rintro e_ X3 ⟨rfl, hm3, hg3⟩
        have HA3 := hide (HA2.out.call hg3 ne1)
        have HB3 := hide (HB2_.out.call hg3 ne2)
        have HF3_X3 := hide (HF2_X2.out.call hm3 hg3 hRM HNE.out)
        clear hm3 hg3
        (try go_simp)
        refine hK.out _ _ trivial (fun hHeld => ?_)
        (try simp only [Act.put, List.setIfInBounds_toArray, List.set_cons_zero, List.set_cons_succ])
        refine tp 3 (h := ?_)
        refine tp 4 (h := ?_)
        refine wpAnyB_ready (rs := [5, 7]) (by kernel_rfl) (by simp) ?_
        refine AllReadyB.cons rfl (fun K hK => ?_) (AllReadyB.cons rfl (fun K hK => ?_) AllReadyB.nil)
        · skip
          have cK := kind_cell HA3.out hJ8 x0 HJ.out
          rw [HK.out] at cK
          go_simp
          clear cK
          (try go_simp)
          refine hK.out _ _ trivial (fun hHeld => ?_)
          (try simp only [Act.put, List.setIfInBounds_toArray, List.set_cons_zero, List.set_cons_succ])
          refine wpAnyB_ready (rs := [7]) (by kernel_rfl) (by simp) ?_
          refine AllReadyB.cons rfl (fun K hK => ?_) AllReadyB.nil
          go_simp
          go_at_call 35
          (with_reducible refine (byte_c M v l (i + 1) _ HF3_X3.out.mk_ HF3_X3.out.by_ HR.out HNE.out x1 HX1.out).mono ?_)
          rintro e_ X4 ⟨rfl, hm4, hg4⟩
          have HA4 := hide (HA3.out.call hg4 ne1)
          have HB4 := hide (HB3.out.call hg4 ne2)
          have HF4_X4 := hide (HF3_X3.out.call hm4 hg4 hRM HNE.out)
          clear hm4 hg4
          (try go_simp)
          refine hK.out _ _ trivial (fun hHeld => ?_)
          (try simp only [Act.put, List.setIfInBounds_toArray, List.set_cons_zero, List.set_cons_succ])
          refine tp 9 (h := ?_)
          refine tp 10 (h := ?_)
          refine wpAnyB_ready (rs := [12]) (by kernel_rfl) (by simp) ?_
          refine AllReadyB.cons rfl (fun K hK => ?_) AllReadyB.nil
          obtain ⟨y0, y1, y2, y3⟩ := B4.all ⟨HB4.out⟩
          obtain ⟨y4, y5, y6, y7⟩ := B4.free ⟨HB4.out⟩
          go_simp
          (try go_simp)
          refine hK.out _ _ trivial (fun hHeld => ?_)
          (try simp only [Act.put, List.setIfInBounds_toArray, List.set_cons_zero, List.set_cons_succ])
          refine wpAnyB_done (by kernel_rfl) ?_ _
          go_wp2
          go_meet
          exact ⟨_, rfl, hide (op_done HF4_X4.out HB4.out hge2 (Nat.le_refl _) hMw)⟩
        · skip
          go_simp
          go_at_call 35
          (with_reducible refine (byte_c M v l (i + 1) _ HF3_X3.out.mk_ HF3_X3.out.by_ HR.out HNE.out x1 HX1.out).mono ?_)
          rintro e_ X4 ⟨rfl, hm4, hg4⟩
          have HA4 := hide (HA3.out.call hg4 ne1)
          have HB4 := hide (HB3.out.call hg4 ne2)
          have HF4_X4 := hide (HF3_X3.out.call hm4 hg4 hRM HNE.out)
          clear hm4 hg4
          (try go_simp)
          refine hK.out _ _ trivial (fun hHeld => ?_)
          (try simp only [Act.put, List.setIfInBounds_toArray, List.set_cons_zero, List.set_cons_succ])
          refine tp 9 (h := ?_)
          refine wpAnyB_ready (rs := [5]) (by kernel_rfl) (by simp) ?_
          refine AllReadyB.cons rfl (fun K hK => ?_) AllReadyB.nil
          have cK := kind_cell HA4.out hJ8 x0 HJ.out
          rw [HK.out] at cK
          go_simp
          clear cK
          (try go_simp)
          refine hK.out _ _ trivial (fun hHeld => ?_)
          (try simp only [Act.put, List.setIfInBounds_toArray, List.set_cons_zero, List.set_cons_succ])
          refine tp 10 (h := ?_)
          refine wpAnyB_ready (rs := [12]) (by kernel_rfl) (by simp) ?_
          refine AllReadyB.cons rfl (fun K hK => ?_) AllReadyB.nil
          obtain ⟨y0, y1, y2, y3⟩ := B4.all ⟨HB4.out⟩
          obtain ⟨y4, y5, y6, y7⟩ := B4.free ⟨HB4.out⟩
          go_simp
          (try go_simp)
          refine hK.out _ _ trivial (fun hHeld => ?_)
          (try simp only [Act.put, List.setIfInBounds_toArray, List.set_cons_zero, List.set_cons_succ])
          refine wpAnyB_done (by kernel_rfl) ?_ _
          go_wp2
          go_meet
          exact ⟨_, rfl, hide (op_done HF4_X4.out HB4.out hge2 (Nat.le_refl _) hMw)⟩
    · skip
      go_simp
      go_at_call 35
      (with_reducible refine (byte_c M v l i _ HF0.out.mk_ HF0.out.by_ HR.out HNE.out x0 HX0.out).mono ?_)
      rintro e_ X1 ⟨rfl, hm1, hg1⟩
      have HF1_X1 := hide (HF0.out.call hm1 hg1 hRM HNE.out)
      clear hm1 hg1
      (try go_simp)
      refine hK.out _ _ trivial (fun hHeld => ?_)
      (try simp only [Act.put, List.setIfInBounds_toArray, List.set_cons_zero, List.set_cons_succ])
      refine tp 3 (h := ?_)
      refine wpAnyB_ready (rs := [0, 7, 11]) (by kernel_rfl) (by simp) ?_
      refine AllReadyB.cons rfl (fun K hK => ?_) (AllReadyB.cons rfl (fun K hK => ?_) (AllReadyB.cons rfl (fun K hK => ?_) AllReadyB.nil))
      · skip
        go_simp
        obtain ⟨X2, eX2, hb2, hn2⟩ := bk_new X1 (.cells #[.int .i64 1, .int .i64 1, .int .i64 2, .int .i64 2, .int .i64 2, .int .i64 3, .int .i64 4, .int .i64 5] 3)
        rw [eX2]
        have HF2_X2 := hide (HF1_X1.out.below hb2)
        obtain ⟨C2, hC2⟩ : ∃ C, X1.heap.size = C := ⟨_, rfl⟩
        have hge2 : w.heap.size < C2 := by rw [← hC2]; exact HF1_X1.out.res.lt
        rw [hC2] at hn2 ⊢
        have ne2 : C2 ≠ M := by omega
        have HA2_ := hide hn2
        clear hn2 hC2 eX2
        (try go_simp)
        refine hK.out _ _ trivial (fun hHeld => ?_)
        (try simp only [Act.put, List.setIfInBounds_toArray, List.set_cons_zero, List.set_cons_succ])
        refine tp 4 (h := ?_)
        refine wpAnyB_ready (rs := [5, 7, 11]) (by kernel_rfl) (by simp) ?_
        refine AllReadyB.cons rfl (fun K hK => ?_) (AllReadyB.cons rfl (fun K hK => ?_) (AllReadyB.cons rfl (fun K hK => ?_) AllReadyB.nil))
        · skip
          have cK := kind_cell HA2_.out hJ8 x0 HJ.out
          rw [HK.out] at cK
          go_simp
          clear cK
          (try go_simp)
          refine hK.out _ _ trivial (fun hHeld => ?_)
          (try simp only [Act.put, List.setIfInBounds_toArray, List.set_cons_zero, List.set_cons_succ])
          refine wpAnyB_ready (rs := [7, 11]) (by kernel_rfl) (by simp) ?_
          refine AllReadyB.cons rfl (fun K hK => ?_) (AllReadyB.cons rfl (fun K hK => ?_) AllReadyB.nil)
          · skip
            go_simp
            go_at_call 35
            (with_reducible refine (byte_c M v l (i + 1) _ HF2_X2.out.mk_ HF2_X2.out.by_ HR.out HNE.out x1 HX1.out).mono ?_)
            rintro e_ X3 ⟨rfl, hm3, hg3⟩
            have HA3 := hide (HA2_.out.call hg3 ne2)
            have HF3_X3 := hide (HF2_X2.out.call hm3 hg3 hRM HNE.out)
            clear hm3 hg3
            (try go_simp)
            refine hK.out _ _ trivial (fun hHeld => ?_)
            (try simp only [Act.put, List.setIfInBounds_toArray, List.set_cons_zero, List.set_cons_succ])
            refine tp 9 (h := ?_)
            refine tp 10 (h := ?_)
            refine wpAnyB_ready (rs := [11]) (by kernel_rfl) (by simp) ?_
            refine AllReadyB.cons rfl (fun K hK => ?_) AllReadyB.nil
            go_simp
            obtain ⟨X4, eX4, hb4, hn4⟩ := bk_new X3 (.cells #[.int .i64 0, .int .i64 0, .int .i64 0, .int .i64 0] 99)
            rw [eX4]
            have HA4 := hide (HA3.out.below hb4)
            have HF4_X4 := hide (HF3_X3.out.below hb4)
            obtain ⟨C4, hC4⟩ : ∃ C, X3.heap.size = C := ⟨_, rfl⟩
            have hge4 : w.heap.size < C4 := by rw [← hC4]; exact HF3_X3.out.res.lt
            rw [hC4] at hn4 ⊢
            have ne4 : C4 ≠ M := by omega
            have HB4_ := hide hn4
            clear hn4 hC4 eX4
            (try go_simp)
            refine hK.out _ _ trivial (fun hHeld => ?_)
            (try simp only [Act.put, List.setIfInBounds_toArray, List.set_cons_zero, List.set_cons_succ])
            refine wpAnyB_ready (rs := [12]) (by kernel_rfl) (by simp) ?_
            refine AllReadyB.cons rfl (fun K hK => ?_) AllReadyB.nil
            obtain ⟨y0, y1, y2, y3⟩ := B4.all ⟨HB4_.out⟩
            obtain ⟨y4, y5, y6, y7⟩ := B4.free ⟨HB4_.out⟩
            go_simp
            (try go_simp)
            refine hK.out _ _ trivial (fun hHeld => ?_)
            (try simp only [Act.put, List.setIfInBounds_toArray, List.set_cons_zero, List.set_cons_succ])
            refine wpAnyB_done (by kernel_rfl) ?_ _
            go_wp2
            go_meet
            exact ⟨_, rfl, hide (op_done HF4_X4.out HB4_.out hge4 (Nat.le_refl _) hMw)⟩
          · skip
            go_simp
            obtain ⟨X3, eX3, hb3, hn3⟩ := bk_new X2 (.cells #[.int .i64 0, .int .i64 0, .int .i64 0, .int .i64 0] 99)
            rw [eX3]
            have HA3 := hide (HA2_.out.below hb3)
            have HF3_X3 := hide (HF2_X2.out.below hb3)
            obtain ⟨C3, hC3⟩ : ∃ C, X2.heap.size = C := ⟨_, rfl⟩
            have hge3 : w.heap.size < C3 := by rw [← hC3]; exact HF2_X2.out.res.lt
            rw [hC3] at hn3 ⊢
            have ne3 : C3 ≠ M := by omega
            have HB3_ := hide hn3
            clear hn3 hC3 eX3
            (try go_simp)
            refine hK.out _ _ trivial (fun hHeld => ?_)
            (try simp only [Act.put, List.setIfInBounds_toArray, List.set_cons_zero, List.set_cons_succ])
            refine wpAnyB_ready (rs := [7]) (by kernel_rfl) (by simp) ?_
            refine AllReadyB.cons rfl (fun K hK => ?_) AllReadyB.nil
            go_simp
            go_at_call 35
            (with_reducible refine (byte_c M v l (i + 1) _ HF3_X3.out.mk_ HF3_X3.out.by_ HR.out HNE.out x1 HX1.out).mono ?_)
            rintro e_ X4 ⟨rfl, hm4, hg4⟩
            have HA4 := hide (HA3.out.call hg4 ne2)
            have HB4 := hide (HB3_.out.call hg4 ne3)
            have HF4_X4 := hide (HF3_X3.out.call hm4 hg4 hRM HNE.out)
            clear hm4 hg4
            (try go_simp)
            refine hK.out _ _ trivial (fun hHeld => ?_)
            (try simp only [Act.put, List.setIfInBounds_toArray, List.set_cons_zero, List.set_cons_succ])
            refine tp 9 (h := ?_)
            refine tp 10 (h := ?_)
            refine wpAnyB_ready (rs := [12]) (by kernel_rfl) (by simp) ?_
            refine AllReadyB.cons rfl (fun K hK => ?_) AllReadyB.nil
            obtain ⟨y0, y1, y2, y3⟩ := B4.all ⟨HB4.out⟩
            obtain ⟨y4, y5, y6, y7⟩ := B4.free ⟨HB4.out⟩
            go_simp
            (try go_simp)
            refine hK.out _ _ trivial (fun hHeld => ?_)
            (try simp only [Act.put, List.setIfInBounds_toArray, List.set_cons_zero, List.set_cons_succ])
            refine wpAnyB_done (by kernel_rfl) ?_ _
            go_wp2
            go_meet
            exact ⟨_, rfl, hide (op_done HF4_X4.out HB4.out hge3 (Nat.le_refl _) hMw)⟩
        · skip
          go_simp
          go_at_call 35
          (with_reducible refine (byte_c M v l (i + 1) _ HF2_X2.out.mk_ HF2_X2.out.by_ HR.out HNE.out x1 HX1.out).mono ?_)
          rintro e_ X3 ⟨rfl, hm3, hg3⟩
          have HA3 := hide (HA2_.out.call hg3 ne2)
          have HF3_X3 := hide (HF2_X2.out.call hm3 hg3 hRM HNE.out)
          clear hm3 hg3
          (try go_simp)
          refine hK.out _ _ trivial (fun hHeld => ?_)
          (try simp only [Act.put, List.setIfInBounds_toArray, List.set_cons_zero, List.set_cons_succ])
          refine tp 9 (h := ?_)
          refine wpAnyB_ready (rs := [5, 11]) (by kernel_rfl) (by simp) ?_
          refine AllReadyB.cons rfl (fun K hK => ?_) (AllReadyB.cons rfl (fun K hK => ?_) AllReadyB.nil)
          · skip
            have cK := kind_cell HA3.out hJ8 x0 HJ.out
            rw [HK.out] at cK
            go_simp
            clear cK
            (try go_simp)
            refine hK.out _ _ trivial (fun hHeld => ?_)
            (try simp only [Act.put, List.setIfInBounds_toArray, List.set_cons_zero, List.set_cons_succ])
            refine tp 10 (h := ?_)
            refine wpAnyB_ready (rs := [11]) (by kernel_rfl) (by simp) ?_
            refine AllReadyB.cons rfl (fun K hK => ?_) AllReadyB.nil
            go_simp
            obtain ⟨X4, eX4, hb4, hn4⟩ := bk_new X3 (.cells #[.int .i64 0, .int .i64 0, .int .i64 0, .int .i64 0] 99)
            rw [eX4]
            have HA4 := hide (HA3.out.below hb4)
            have HF4_X4 := hide (HF3_X3.out.below hb4)
            obtain ⟨C4, hC4⟩ : ∃ C, X3.heap.size = C := ⟨_, rfl⟩
            have hge4 : w.heap.size < C4 := by rw [← hC4]; exact HF3_X3.out.res.lt
            rw [hC4] at hn4 ⊢
            have ne4 : C4 ≠ M := by omega
            have HB4_ := hide hn4
            clear hn4 hC4 eX4
            (try go_simp)
            refine hK.out _ _ trivial (fun hHeld => ?_)
            (try simp only [Act.put, List.setIfInBounds_toArray, List.set_cons_zero, List.set_cons_succ])
            refine wpAnyB_ready (rs := [12]) (by kernel_rfl) (by simp) ?_
            refine AllReadyB.cons rfl (fun K hK => ?_) AllReadyB.nil
            obtain ⟨y0, y1, y2, y3⟩ := B4.all ⟨HB4_.out⟩
            obtain ⟨y4, y5, y6, y7⟩ := B4.free ⟨HB4_.out⟩
            go_simp
            (try go_simp)
            refine hK.out _ _ trivial (fun hHeld => ?_)
            (try simp only [Act.put, List.setIfInBounds_toArray, List.set_cons_zero, List.set_cons_succ])
            refine wpAnyB_done (by kernel_rfl) ?_ _
            go_wp2
            go_meet
            exact ⟨_, rfl, hide (op_done HF4_X4.out HB4_.out hge4 (Nat.le_refl _) hMw)⟩
          · skip
            go_simp
            obtain ⟨X4, eX4, hb4, hn4⟩ := bk_new X3 (.cells #[.int .i64 0, .int .i64 0, .int .i64 0, .int .i64 0] 99)
            rw [eX4]
            have HA4 := hide (HA3.out.below hb4)
            have HF4_X4 := hide (HF3_X3.out.below hb4)
            obtain ⟨C4, hC4⟩ : ∃ C, X3.heap.size = C := ⟨_, rfl⟩
            have hge4 : w.heap.size < C4 := by rw [← hC4]; exact HF3_X3.out.res.lt
            rw [hC4] at hn4 ⊢
            have ne4 : C4 ≠ M := by omega
            have HB4_ := hide hn4
            clear hn4 hC4 eX4
            (try go_simp)
            refine hK.out _ _ trivial (fun hHeld => ?_)
            (try simp only [Act.put, List.setIfInBounds_toArray, List.set_cons_zero, List.set_cons_succ])
            refine wpAnyB_ready (rs := [5]) (by kernel_rfl) (by simp) ?_
            refine AllReadyB.cons rfl (fun K hK => ?_) AllReadyB.nil
            have cK := kind_cell HA4.out hJ8 x0 HJ.out
            rw [HK.out] at cK
            go_simp
            clear cK
            (try go_simp)
            refine hK.out _ _ trivial (fun hHeld => ?_)
            (try simp only [Act.put, List.setIfInBounds_toArray, List.set_cons_zero, List.set_cons_succ])
            refine tp 10 (h := ?_)
            refine wpAnyB_ready (rs := [12]) (by kernel_rfl) (by simp) ?_
            refine AllReadyB.cons rfl (fun K hK => ?_) AllReadyB.nil
            obtain ⟨y0, y1, y2, y3⟩ := B4.all ⟨HB4_.out⟩
            obtain ⟨y4, y5, y6, y7⟩ := B4.free ⟨HB4_.out⟩
            go_simp
            (try go_simp)
            refine hK.out _ _ trivial (fun hHeld => ?_)
            (try simp only [Act.put, List.setIfInBounds_toArray, List.set_cons_zero, List.set_cons_succ])
            refine wpAnyB_done (by kernel_rfl) ?_ _
            go_wp2
            go_meet
            exact ⟨_, rfl, hide (op_done HF4_X4.out HB4_.out hge4 (Nat.le_refl _) hMw)⟩
        · skip
          go_simp
          obtain ⟨X3, eX3, hb3, hn3⟩ := bk_new X2 (.cells #[.int .i64 0, .int .i64 0, .int .i64 0, .int .i64 0] 99)
          rw [eX3]
          have HA3 := hide (HA2_.out.below hb3)
          have HF3_X3 := hide (HF2_X2.out.below hb3)
          obtain ⟨C3, hC3⟩ : ∃ C, X2.heap.size = C := ⟨_, rfl⟩
          have hge3 : w.heap.size < C3 := by rw [← hC3]; exact HF2_X2.out.res.lt
          rw [hC3] at hn3 ⊢
          have ne3 : C3 ≠ M := by omega
          have HB3_ := hide hn3
          clear hn3 hC3 eX3
          (try go_simp)
          refine hK.out _ _ trivial (fun hHeld => ?_)
          (try simp only [Act.put, List.setIfInBounds_toArray, List.set_cons_zero, List.set_cons_succ])
          refine wpAnyB_ready (rs := [5, 7]) (by kernel_rfl) (by simp) ?_
          refine AllReadyB.cons rfl (fun K hK => ?_) (AllReadyB.cons rfl (fun K hK => ?_) AllReadyB.nil)
          · skip
            have cK := kind_cell HA3.out hJ8 x0 HJ.out
            rw [HK.out] at cK
            go_simp
            clear cK
            (try go_simp)
            refine hK.out _ _ trivial (fun hHeld => ?_)
            (try simp only [Act.put, List.setIfInBounds_toArray, List.set_cons_zero, List.set_cons_succ])
            refine wpAnyB_ready (rs := [7]) (by kernel_rfl) (by simp) ?_
            refine AllReadyB.cons rfl (fun K hK => ?_) AllReadyB.nil
            go_simp
            go_at_call 35
            (with_reducible refine (byte_c M v l (i + 1) _ HF3_X3.out.mk_ HF3_X3.out.by_ HR.out HNE.out x1 HX1.out).mono ?_)
            rintro e_ X4 ⟨rfl, hm4, hg4⟩
            have HA4 := hide (HA3.out.call hg4 ne2)
            have HB4 := hide (HB3_.out.call hg4 ne3)
            have HF4_X4 := hide (HF3_X3.out.call hm4 hg4 hRM HNE.out)
            clear hm4 hg4
            (try go_simp)
            refine hK.out _ _ trivial (fun hHeld => ?_)
            (try simp only [Act.put, List.setIfInBounds_toArray, List.set_cons_zero, List.set_cons_succ])
            refine tp 9 (h := ?_)
            refine tp 10 (h := ?_)
            refine wpAnyB_ready (rs := [12]) (by kernel_rfl) (by simp) ?_
            refine AllReadyB.cons rfl (fun K hK => ?_) AllReadyB.nil
            obtain ⟨y0, y1, y2, y3⟩ := B4.all ⟨HB4.out⟩
            obtain ⟨y4, y5, y6, y7⟩ := B4.free ⟨HB4.out⟩
            go_simp
            (try go_simp)
            refine hK.out _ _ trivial (fun hHeld => ?_)
            (try simp only [Act.put, List.setIfInBounds_toArray, List.set_cons_zero, List.set_cons_succ])
            refine wpAnyB_done (by kernel_rfl) ?_ _
            go_wp2
            go_meet
            exact ⟨_, rfl, hide (op_done HF4_X4.out HB4.out hge3 (Nat.le_refl _) hMw)⟩
          · skip
            go_simp
            go_at_call 35
            (with_reducible refine (byte_c M v l (i + 1) _ HF3_X3.out.mk_ HF3_X3.out.by_ HR.out HNE.out x1 HX1.out).mono ?_)
            rintro e_ X4 ⟨rfl, hm4, hg4⟩
            have HA4 := hide (HA3.out.call hg4 ne2)
            have HB4 := hide (HB3_.out.call hg4 ne3)
            have HF4_X4 := hide (HF3_X3.out.call hm4 hg4 hRM HNE.out)
            clear hm4 hg4
            (try go_simp)
            refine hK.out _ _ trivial (fun hHeld => ?_)
            (try simp only [Act.put, List.setIfInBounds_toArray, List.set_cons_zero, List.set_cons_succ])
            refine tp 9 (h := ?_)
            refine wpAnyB_ready (rs := [5]) (by kernel_rfl) (by simp) ?_
            refine AllReadyB.cons rfl (fun K hK => ?_) AllReadyB.nil
            have cK := kind_cell HA4.out hJ8 x0 HJ.out
            rw [HK.out] at cK
            go_simp
            clear cK
            (try go_simp)
            refine hK.out _ _ trivial (fun hHeld => ?_)
            (try simp only [Act.put, List.setIfInBounds_toArray, List.set_cons_zero, List.set_cons_succ])
            refine tp 10 (h := ?_)
            refine wpAnyB_ready (rs := [12]) (by kernel_rfl) (by simp) ?_
            refine AllReadyB.cons rfl (fun K hK => ?_) AllReadyB.nil
            obtain ⟨y0, y1, y2, y3⟩ := B4.all ⟨HB4.out⟩
            obtain ⟨y4, y5, y6, y7⟩ := B4.free ⟨HB4.out⟩
            go_simp
            (try go_simp)
            refine hK.out _ _ trivial (fun hHeld => ?_)
            (try simp only [Act.put, List.setIfInBounds_toArray, List.set_cons_zero, List.set_cons_succ])
            refine wpAnyB_done (by kernel_rfl) ?_ _
            go_wp2
            go_meet
            exact ⟨_, rfl, hide (op_done HF4_X4.out HB4.out hge3 (Nat.le_refl _) hMw)⟩
      · skip
        go_simp
        go_at_call 35
        (with_reducible refine (byte_c M v l (i + 1) _ HF1_X1.out.mk_ HF1_X1.out.by_ HR.out HNE.out x1 HX1.out).mono ?_)
        rintro e_ X2 ⟨rfl, hm2, hg2⟩
        have HF2_X2 := hide (HF1_X1.out.call hm2 hg2 hRM HNE.out)
        clear hm2 hg2
        (try go_simp)
        refine hK.out _ _ trivial (fun hHeld => ?_)
        (try simp only [Act.put, List.setIfInBounds_toArray, List.set_cons_zero, List.set_cons_succ])
        refine tp 9 (h := ?_)
        refine wpAnyB_ready (rs := [0, 11]) (by kernel_rfl) (by simp) ?_
        refine AllReadyB.cons rfl (fun K hK => ?_) (AllReadyB.cons rfl (fun K hK => ?_) AllReadyB.nil)
        · skip
          go_simp
          obtain ⟨X3, eX3, hb3, hn3⟩ := bk_new X2 (.cells #[.int .i64 1, .int .i64 1, .int .i64 2, .int .i64 2, .int .i64 2, .int .i64 3, .int .i64 4, .int .i64 5] 3)
          rw [eX3]
          have HF3_X3 := hide (HF2_X2.out.below hb3)
          obtain ⟨C3, hC3⟩ : ∃ C, X2.heap.size = C := ⟨_, rfl⟩
          have hge3 : w.heap.size < C3 := by rw [← hC3]; exact HF2_X2.out.res.lt
          rw [hC3] at hn3 ⊢
          have ne3 : C3 ≠ M := by omega
          have HA3_ := hide hn3
          clear hn3 hC3 eX3
          (try go_simp)
          refine hK.out _ _ trivial (fun hHeld => ?_)
          (try simp only [Act.put, List.setIfInBounds_toArray, List.set_cons_zero, List.set_cons_succ])
          refine tp 4 (h := ?_)
          refine wpAnyB_ready (rs := [5, 11]) (by kernel_rfl) (by simp) ?_
          refine AllReadyB.cons rfl (fun K hK => ?_) (AllReadyB.cons rfl (fun K hK => ?_) AllReadyB.nil)
          · skip
            have cK := kind_cell HA3_.out hJ8 x0 HJ.out
            rw [HK.out] at cK
            go_simp
            clear cK
            (try go_simp)
            refine hK.out _ _ trivial (fun hHeld => ?_)
            (try simp only [Act.put, List.setIfInBounds_toArray, List.set_cons_zero, List.set_cons_succ])
            refine tp 10 (h := ?_)
            refine wpAnyB_ready (rs := [11]) (by kernel_rfl) (by simp) ?_
            refine AllReadyB.cons rfl (fun K hK => ?_) AllReadyB.nil
            go_simp
            obtain ⟨X4, eX4, hb4, hn4⟩ := bk_new X3 (.cells #[.int .i64 0, .int .i64 0, .int .i64 0, .int .i64 0] 99)
            rw [eX4]
            have HA4 := hide (HA3_.out.below hb4)
            have HF4_X4 := hide (HF3_X3.out.below hb4)
            obtain ⟨C4, hC4⟩ : ∃ C, X3.heap.size = C := ⟨_, rfl⟩
            have hge4 : w.heap.size < C4 := by rw [← hC4]; exact HF3_X3.out.res.lt
            rw [hC4] at hn4 ⊢
            have ne4 : C4 ≠ M := by omega
            have HB4_ := hide hn4
            clear hn4 hC4 eX4
            (try go_simp)
            refine hK.out _ _ trivial (fun hHeld => ?_)
            (try simp only [Act.put, List.setIfInBounds_toArray, List.set_cons_zero, List.set_cons_succ])
            refine wpAnyB_ready (rs := [12]) (by kernel_rfl) (by simp) ?_
            refine AllReadyB.cons rfl (fun K hK => ?_) AllReadyB.nil
            obtain ⟨y0, y1, y2, y3⟩ := B4.all ⟨HB4_.out⟩
            obtain ⟨y4, y5, y6, y7⟩ := B4.free ⟨HB4_.out⟩
            go_simp
            (try go_simp)
            refine hK.out _ _ trivial (fun hHeld => ?_)
            (try simp only [Act.put, List.setIfInBounds_toArray, List.set_cons_zero, List.set_cons_succ])
            refine wpAnyB_done (by kernel_rfl) ?_ _
            go_wp2
            go_meet
            exact ⟨_, rfl, hide (op_done HF4_X4.out HB4_.out hge4 (Nat.le_refl _) hMw)⟩
          · skip
            go_simp
            obtain ⟨X4, eX4, hb4, hn4⟩ := bk_new X3 (.cells #[.int .i64 0, .int .i64 0, .int .i64 0, .int .i64 0] 99)
            rw [eX4]
            have HA4 := hide (HA3_.out.below hb4)
            have HF4_X4 := hide (HF3_X3.out.below hb4)
            obtain ⟨C4, hC4⟩ : ∃ C, X3.heap.size = C := ⟨_, rfl⟩
            have hge4 : w.heap.size < C4 := by rw [← hC4]; exact HF3_X3.out.res.lt
            rw [hC4] at hn4 ⊢
            have ne4 : C4 ≠ M := by omega
            have HB4_ := hide hn4
            clear hn4 hC4 eX4
            (try go_simp)
            refine hK.out _ _ trivial (fun hHeld => ?_)
            (try simp only [Act.put, List.setIfInBounds_toArray, List.set_cons_zero, List.set_cons_succ])
            refine wpAnyB_ready (rs := [5]) (by kernel_rfl) (by simp) ?_
            refine AllReadyB.cons rfl (fun K hK => ?_) AllReadyB.nil
            have cK := kind_cell HA4.out hJ8 x0 HJ.out
            rw [HK.out] at cK
            go_simp
            clear cK
            (try go_simp)
            refine hK.out _ _ trivial (fun hHeld => ?_)
            (try simp only [Act.put, List.setIfInBounds_toArray, List.set_cons_zero, List.set_cons_succ])
            refine tp 10 (h := ?_)
            refine wpAnyB_ready (rs := [12]) (by kernel_rfl) (by simp) ?_
            refine AllReadyB.cons rfl (fun K hK => ?_) AllReadyB.nil
            obtain ⟨y0, y1, y2, y3⟩ := B4.all ⟨HB4_.out⟩
            obtain ⟨y4, y5, y6, y7⟩ := B4.free ⟨HB4_.out⟩
            go_simp
            (try go_simp)
            refine hK.out _ _ trivial (fun hHeld => ?_)
            (try simp only [Act.put, List.setIfInBounds_toArray, List.set_cons_zero, List.set_cons_succ])
            refine wpAnyB_done (by kernel_rfl) ?_ _
            go_wp2
            go_meet
            exact ⟨_, rfl, hide (op_done HF4_X4.out HB4_.out hge4 (Nat.le_refl _) hMw)⟩
        · skip
          go_simp
          obtain ⟨X3, eX3, hb3, hn3⟩ := bk_new X2 (.cells #[.int .i64 0, .int .i64 0, .int .i64 0, .int .i64 0] 99)
          rw [eX3]
          have HF3_X3 := hide (HF2_X2.out.below hb3)
          obtain ⟨C3, hC3⟩ : ∃ C, X2.heap.size = C := ⟨_, rfl⟩
          have hge3 : w.heap.size < C3 := by rw [← hC3]; exact HF2_X2.out.res.lt
          rw [hC3] at hn3 ⊢
          have ne3 : C3 ≠ M := by omega
          have HB3_ := hide hn3
          clear hn3 hC3 eX3
          (try go_simp)
          refine hK.out _ _ trivial (fun hHeld => ?_)
          (try simp only [Act.put, List.setIfInBounds_toArray, List.set_cons_zero, List.set_cons_succ])
          refine wpAnyB_ready (rs := [0]) (by kernel_rfl) (by simp) ?_
          refine AllReadyB.cons rfl (fun K hK => ?_) AllReadyB.nil
          go_simp
          obtain ⟨X4, eX4, hb4, hn4⟩ := bk_new X3 (.cells #[.int .i64 1, .int .i64 1, .int .i64 2, .int .i64 2, .int .i64 2, .int .i64 3, .int .i64 4, .int .i64 5] 3)
          rw [eX4]
          have HB4 := hide (HB3_.out.below hb4)
          have HF4_X4 := hide (HF3_X3.out.below hb4)
          obtain ⟨C4, hC4⟩ : ∃ C, X3.heap.size = C := ⟨_, rfl⟩
          have hge4 : w.heap.size < C4 := by rw [← hC4]; exact HF3_X3.out.res.lt
          rw [hC4] at hn4 ⊢
          have ne4 : C4 ≠ M := by omega
          have HA4_ := hide hn4
          clear hn4 hC4 eX4
          (try go_simp)
          refine hK.out _ _ trivial (fun hHeld => ?_)
          (try simp only [Act.put, List.setIfInBounds_toArray, List.set_cons_zero, List.set_cons_succ])
          refine tp 4 (h := ?_)
          refine wpAnyB_ready (rs := [5]) (by kernel_rfl) (by simp) ?_
          refine AllReadyB.cons rfl (fun K hK => ?_) AllReadyB.nil
          have cK := kind_cell HA4_.out hJ8 x0 HJ.out
          rw [HK.out] at cK
          go_simp
          clear cK
          (try go_simp)
          refine hK.out _ _ trivial (fun hHeld => ?_)
          (try simp only [Act.put, List.setIfInBounds_toArray, List.set_cons_zero, List.set_cons_succ])
          refine tp 10 (h := ?_)
          refine wpAnyB_ready (rs := [12]) (by kernel_rfl) (by simp) ?_
          refine AllReadyB.cons rfl (fun K hK => ?_) AllReadyB.nil
          obtain ⟨y0, y1, y2, y3⟩ := B4.all ⟨HB4.out⟩
          obtain ⟨y4, y5, y6, y7⟩ := B4.free ⟨HB4.out⟩
          go_simp
          (try go_simp)
          refine hK.out _ _ trivial (fun hHeld => ?_)
          (try simp only [Act.put, List.setIfInBounds_toArray, List.set_cons_zero, List.set_cons_succ])
          refine wpAnyB_done (by kernel_rfl) ?_ _
          go_wp2
          go_meet
          exact ⟨_, rfl, hide (op_done HF4_X4.out HB4.out hge3 (Nat.le_refl _) hMw)⟩
      · skip
        go_simp
        obtain ⟨X2, eX2, hb2, hn2⟩ := bk_new X1 (.cells #[.int .i64 0, .int .i64 0, .int .i64 0, .int .i64 0] 99)
        rw [eX2]
        have HF2_X2 := hide (HF1_X1.out.below hb2)
        obtain ⟨C2, hC2⟩ : ∃ C, X1.heap.size = C := ⟨_, rfl⟩
        have hge2 : w.heap.size < C2 := by rw [← hC2]; exact HF1_X1.out.res.lt
        rw [hC2] at hn2 ⊢
        have ne2 : C2 ≠ M := by omega
        have HB2_ := hide hn2
        clear hn2 hC2 eX2
        (try go_simp)
        refine hK.out _ _ trivial (fun hHeld => ?_)
        (try simp only [Act.put, List.setIfInBounds_toArray, List.set_cons_zero, List.set_cons_succ])
        refine wpAnyB_ready (rs := [0, 7]) (by kernel_rfl) (by simp) ?_
        refine AllReadyB.cons rfl (fun K hK => ?_) (AllReadyB.cons rfl (fun K hK => ?_) AllReadyB.nil)
        · skip
          go_simp
          obtain ⟨X3, eX3, hb3, hn3⟩ := bk_new X2 (.cells #[.int .i64 1, .int .i64 1, .int .i64 2, .int .i64 2, .int .i64 2, .int .i64 3, .int .i64 4, .int .i64 5] 3)
          rw [eX3]
          have HB3 := hide (HB2_.out.below hb3)
          have HF3_X3 := hide (HF2_X2.out.below hb3)
          obtain ⟨C3, hC3⟩ : ∃ C, X2.heap.size = C := ⟨_, rfl⟩
          have hge3 : w.heap.size < C3 := by rw [← hC3]; exact HF2_X2.out.res.lt
          rw [hC3] at hn3 ⊢
          have ne3 : C3 ≠ M := by omega
          have HA3_ := hide hn3
          clear hn3 hC3 eX3
          (try go_simp)
          refine hK.out _ _ trivial (fun hHeld => ?_)
          (try simp only [Act.put, List.setIfInBounds_toArray, List.set_cons_zero, List.set_cons_succ])
          refine tp 4 (h := ?_)
          refine wpAnyB_ready (rs := [5, 7]) (by kernel_rfl) (by simp) ?_
          refine AllReadyB.cons rfl (fun K hK => ?_) (AllReadyB.cons rfl (fun K hK => ?_) AllReadyB.nil)
          · skip
            have cK := kind_cell HA3_.out hJ8 x0 HJ.out
            rw [HK.out] at cK
            go_simp
            clear cK
            (try go_simp)
            refine hK.out _ _ trivial (fun hHeld => ?_)
            (try simp only [Act.put, List.setIfInBounds_toArray, List.set_cons_zero, List.set_cons_succ])
            refine wpAnyB_ready (rs := [7]) (by kernel_rfl) (by simp) ?_
            refine AllReadyB.cons rfl (fun K hK => ?_) AllReadyB.nil
            go_simp
            go_at_call 35
            (with_reducible refine (byte_c M v l (i + 1) _ HF3_X3.out.mk_ HF3_X3.out.by_ HR.out HNE.out x1 HX1.out).mono ?_)
            rintro e_ X4 ⟨rfl, hm4, hg4⟩
            have HA4 := hide (HA3_.out.call hg4 ne3)
            have HB4 := hide (HB3.out.call hg4 ne2)
            have HF4_X4 := hide (HF3_X3.out.call hm4 hg4 hRM HNE.out)
            clear hm4 hg4
            (try go_simp)
            refine hK.out _ _ trivial (fun hHeld => ?_)
            (try simp only [Act.put, List.setIfInBounds_toArray, List.set_cons_zero, List.set_cons_succ])
            refine tp 9 (h := ?_)
            refine tp 10 (h := ?_)
            refine wpAnyB_ready (rs := [12]) (by kernel_rfl) (by simp) ?_
            refine AllReadyB.cons rfl (fun K hK => ?_) AllReadyB.nil
            obtain ⟨y0, y1, y2, y3⟩ := B4.all ⟨HB4.out⟩
            obtain ⟨y4, y5, y6, y7⟩ := B4.free ⟨HB4.out⟩
            go_simp
            (try go_simp)
            refine hK.out _ _ trivial (fun hHeld => ?_)
            (try simp only [Act.put, List.setIfInBounds_toArray, List.set_cons_zero, List.set_cons_succ])
            refine wpAnyB_done (by kernel_rfl) ?_ _
            go_wp2
            go_meet
            exact ⟨_, rfl, hide (op_done HF4_X4.out HB4.out hge2 (Nat.le_refl _) hMw)⟩
          · skip
            go_simp
            go_at_call 35
            (with_reducible refine (byte_c M v l (i + 1) _ HF3_X3.out.mk_ HF3_X3.out.by_ HR.out HNE.out x1 HX1.out).mono ?_)
            rintro e_ X4 ⟨rfl, hm4, hg4⟩
            have HA4 := hide (HA3_.out.call hg4 ne3)
            have HB4 := hide (HB3.out.call hg4 ne2)
            have HF4_X4 := hide (HF3_X3.out.call hm4 hg4 hRM HNE.out)
            clear hm4 hg4
            (try go_simp)
            refine hK.out _ _ trivial (fun hHeld => ?_)
            (try simp only [Act.put, List.setIfInBounds_toArray, List.set_cons_zero, List.set_cons_succ])
            refine tp 9 (h := ?_)
            refine wpAnyB_ready (rs := [5]) (by kernel_rfl) (by simp) ?_
            refine AllReadyB.cons rfl (fun K hK => ?_) AllReadyB.nil
            have cK := kind_cell HA4.out hJ8 x0 HJ.out
            rw [HK.out] at cK
            go_simp
            clear cK
            (try go_simp)
            refine hK.out _ _ trivial (fun hHeld => ?_)
            (try simp only [Act.put, List.setIfInBounds_toArray, List.set_cons_zero, List.set_cons_succ])
            refine tp 10 (h := ?_)
            refine wpAnyB_ready (rs := [12]) (by kernel_rfl) (by simp) ?_
            refine AllReadyB.cons rfl (fun K hK => ?_) AllReadyB.nil
            obtain ⟨y0, y1, y2, y3⟩ := B4.all ⟨HB4.out⟩
            obtain ⟨y4, y5, y6, y7⟩ := B4.free ⟨HB4.out⟩
            go_simp
            (try go_simp)
            refine hK.out _ _ trivial (fun hHeld => ?_)
            (try simp only [Act.put, List.setIfInBounds_toArray, List.set_cons_zero, List.set_cons_succ])
            refine wpAnyB_done (by kernel_rfl) ?_ _
            go_wp2
            go_meet
            exact ⟨_, rfl, hide (op_done HF4_X4.out HB4.out hge2 (Nat.le_refl _) hMw)⟩
        · skip
          go_simp
          go_at_call 35
          (with_reducible refine (byte_c M v l (i + 1) _ HF2_X2.out.mk_ HF2_X2.out.by_ HR.out HNE.out x1 HX1.out).mono ?_)
          rintro e_ X3 ⟨rfl, hm3, hg3⟩
          have HB3 := hide (HB2_.out.call hg3 ne2)
          have HF3_X3 := hide (HF2_X2.out.call hm3 hg3 hRM HNE.out)
          clear hm3 hg3
          (try go_simp)
          refine hK.out _ _ trivial (fun hHeld => ?_)
          (try simp only [Act.put, List.setIfInBounds_toArray, List.set_cons_zero, List.set_cons_succ])
          refine tp 9 (h := ?_)
          refine wpAnyB_ready (rs := [0]) (by kernel_rfl) (by simp) ?_
          refine AllReadyB.cons rfl (fun K hK => ?_) AllReadyB.nil
          go_simp
          obtain ⟨X4, eX4, hb4, hn4⟩ := bk_new X3 (.cells #[.int .i64 1, .int .i64 1, .int .i64 2, .int .i64 2, .int .i64 2, .int .i64 3, .int .i64 4, .int .i64 5] 3)
          rw [eX4]
          have HB4 := hide (HB3.out.below hb4)
          have HF4_X4 := hide (HF3_X3.out.below hb4)
          obtain ⟨C4, hC4⟩ : ∃ C, X3.heap.size = C := ⟨_, rfl⟩
          have hge4 : w.heap.size < C4 := by rw [← hC4]; exact HF3_X3.out.res.lt
          rw [hC4] at hn4 ⊢
          have ne4 : C4 ≠ M := by omega
          have HA4_ := hide hn4
          clear hn4 hC4 eX4
          (try go_simp)
          refine hK.out _ _ trivial (fun hHeld => ?_)
          (try simp only [Act.put, List.setIfInBounds_toArray, List.set_cons_zero, List.set_cons_succ])
          refine tp 4 (h := ?_)
          refine wpAnyB_ready (rs := [5]) (by kernel_rfl) (by simp) ?_
          refine AllReadyB.cons rfl (fun K hK => ?_) AllReadyB.nil
          have cK := kind_cell HA4_.out hJ8 x0 HJ.out
          rw [HK.out] at cK
          go_simp
          clear cK
          (try go_simp)
          refine hK.out _ _ trivial (fun hHeld => ?_)
          (try simp only [Act.put, List.setIfInBounds_toArray, List.set_cons_zero, List.set_cons_succ])
          refine tp 10 (h := ?_)
          refine wpAnyB_ready (rs := [12]) (by kernel_rfl) (by simp) ?_
          refine AllReadyB.cons rfl (fun K hK => ?_) AllReadyB.nil
          obtain ⟨y0, y1, y2, y3⟩ := B4.all ⟨HB4.out⟩
          obtain ⟨y4, y5, y6, y7⟩ := B4.free ⟨HB4.out⟩
          go_simp
          (try go_simp)
          refine hK.out _ _ trivial (fun hHeld => ?_)
          (try simp only [Act.put, List.setIfInBounds_toArray, List.set_cons_zero, List.set_cons_succ])
          refine wpAnyB_done (by kernel_rfl) ?_ _
          go_wp2
          go_meet
          exact ⟨_, rfl, hide (op_done HF4_X4.out HB4.out hge2 (Nat.le_refl _) hMw)⟩
    · skip
      go_simp
      obtain ⟨X1, eX1, hb1, hn1⟩ := bk_new D (.cells #[.int .i64 0, .int .i64 0, .int .i64 0, .int .i64 0] 99)
      rw [eX1]
      have HF1_X1 := hide (HF0.out.below hb1)
      obtain ⟨C1, hC1⟩ : ∃ C, D.heap.size = C := ⟨_, rfl⟩
      have hge1 : w.heap.size < C1 := by rw [← hC1]; exact HF0.out.res.lt
      rw [hC1] at hn1 ⊢
      have ne1 : C1 ≠ M := by omega
      have HB1_ := hide hn1
      clear hn1 hC1 eX1
      (try go_simp)
      refine hK.out _ _ trivial (fun hHeld => ?_)
      (try simp only [Act.put, List.setIfInBounds_toArray, List.set_cons_zero, List.set_cons_succ])
      refine wpAnyB_ready (rs := [0, 2]) (by kernel_rfl) (by simp) ?_
      refine AllReadyB.cons rfl (fun K hK => ?_) (AllReadyB.cons rfl (fun K hK => ?_) AllReadyB.nil)
      · skip
        go_simp
        obtain ⟨X2, eX2, hb2, hn2⟩ := bk_new X1 (.cells #[.int .i64 1, .int .i64 1, .int .i64 2, .int .i64 2, .int .i64 2, .int .i64 3, .int .i64 4, .int .i64 5] 3)
        rw [eX2]
        have HB2 := hide (HB1_.out.below hb2)
        have HF2_X2 := hide (HF1_X1.out.below hb2)
        obtain ⟨C2, hC2⟩ : ∃ C, X1.heap.size = C := ⟨_, rfl⟩
        have hge2 : w.heap.size < C2 := by rw [← hC2]; exact HF1_X1.out.res.lt
        rw [hC2] at hn2 ⊢
        have ne2 : C2 ≠ M := by omega
        have HA2_ := hide hn2
        clear hn2 hC2 eX2
        (try go_simp)
        refine hK.out _ _ trivial (fun hHeld => ?_)
        (try simp only [Act.put, List.setIfInBounds_toArray, List.set_cons_zero, List.set_cons_succ])
        refine wpAnyB_ready (rs := [2]) (by kernel_rfl) (by simp) ?_
        refine AllReadyB.cons rfl (fun K hK => ?_) AllReadyB.nil
        go_simp
        go_at_call 35
        (with_reducible refine (byte_c M v l i _ HF2_X2.out.mk_ HF2_X2.out.by_ HR.out HNE.out x0 HX0.out).mono ?_)
        rintro e_ X3 ⟨rfl, hm3, hg3⟩
        have HA3 := hide (HA2_.out.call hg3 ne2)
        have HB3 := hide (HB2.out.call hg3 ne1)
        have HF3_X3 := hide (HF2_X2.out.call hm3 hg3 hRM HNE.out)
        clear hm3 hg3
        (try go_simp)
        refine hK.out _ _ trivial (fun hHeld => ?_)
        (try simp only [Act.put, List.setIfInBounds_toArray, List.set_cons_zero, List.set_cons_succ])
        refine tp 3 (h := ?_)
        refine tp 4 (h := ?_)
        refine wpAnyB_ready (rs := [5, 7]) (by kernel_rfl) (by simp) ?_
        refine AllReadyB.cons rfl (fun K hK => ?_) (AllReadyB.cons rfl (fun K hK => ?_) AllReadyB.nil)
        · skip
          have cK := kind_cell HA3.out hJ8 x0 HJ.out
          rw [HK.out] at cK
          go_simp
          clear cK
          (try go_simp)
          refine hK.out _ _ trivial (fun hHeld => ?_)
          (try simp only [Act.put, List.setIfInBounds_toArray, List.set_cons_zero, List.set_cons_succ])
          refine wpAnyB_ready (rs := [7]) (by kernel_rfl) (by simp) ?_
          refine AllReadyB.cons rfl (fun K hK => ?_) AllReadyB.nil
          go_simp
          go_at_call 35
          (with_reducible refine (byte_c M v l (i + 1) _ HF3_X3.out.mk_ HF3_X3.out.by_ HR.out HNE.out x1 HX1.out).mono ?_)
          rintro e_ X4 ⟨rfl, hm4, hg4⟩
          have HA4 := hide (HA3.out.call hg4 ne2)
          have HB4 := hide (HB3.out.call hg4 ne1)
          have HF4_X4 := hide (HF3_X3.out.call hm4 hg4 hRM HNE.out)
          clear hm4 hg4
          (try go_simp)
          refine hK.out _ _ trivial (fun hHeld => ?_)
          (try simp only [Act.put, List.setIfInBounds_toArray, List.set_cons_zero, List.set_cons_succ])
          refine tp 9 (h := ?_)
          refine tp 10 (h := ?_)
          refine wpAnyB_ready (rs := [12]) (by kernel_rfl) (by simp) ?_
          refine AllReadyB.cons rfl (fun K hK => ?_) AllReadyB.nil
          obtain ⟨y0, y1, y2, y3⟩ := B4.all ⟨HB4.out⟩
          obtain ⟨y4, y5, y6, y7⟩ := B4.free ⟨HB4.out⟩
          go_simp
          (try go_simp)
          refine hK.out _ _ trivial (fun hHeld => ?_)
          (try simp only [Act.put, List.setIfInBounds_toArray, List.set_cons_zero, List.set_cons_succ])
          refine wpAnyB_done (by kernel_rfl) ?_ _
          go_wp2
          go_meet
          exact ⟨_, rfl, hide (op_done HF4_X4.out HB4.out hge1 (Nat.le_refl _) hMw)⟩
        · skip
          go_simp
          go_at_call 35
          (with_reducible refine (byte_c M v l (i + 1) _ HF3_X3.out.mk_ HF3_X3.out.by_ HR.out HNE.out x1 HX1.out).mono ?_)
          rintro e_ X4 ⟨rfl, hm4, hg4⟩
          have HA4 := hide (HA3.out.call hg4 ne2)
          have HB4 := hide (HB3.out.call hg4 ne1)
          have HF4_X4 := hide (HF3_X3.out.call hm4 hg4 hRM HNE.out)
          clear hm4 hg4
          (try go_simp)
          refine hK.out _ _ trivial (fun hHeld => ?_)
          (try simp only [Act.put, List.setIfInBounds_toArray, List.set_cons_zero, List.set_cons_succ])
          refine tp 9 (h := ?_)
          refine wpAnyB_ready (rs := [5]) (by kernel_rfl) (by simp) ?_
          refine AllReadyB.cons rfl (fun K hK => ?_) AllReadyB.nil
          have cK := kind_cell HA4.out hJ8 x0 HJ.out
          rw [HK.out] at cK
          go_simp
          clear cK
          (try go_simp)
          refine hK.out _ _ trivial (fun hHeld => ?_)
          (try simp only [Act.put, List.setIfInBounds_toArray, List.set_cons_zero, List.set_cons_succ])
          refine tp 10 (h := ?_)
          refine wpAnyB_ready (rs := [12]) (by kernel_rfl) (by simp) ?_
          refine AllReadyB.cons rfl (fun K hK => ?_) AllReadyB.nil
          obtain ⟨y0, y1, y2, y3⟩ := B4.all ⟨HB4.out⟩
          obtain ⟨y4, y5, y6, y7⟩ := B4.free ⟨HB4.out⟩
          go_simp
          (try go_simp)
          refine hK.out _ _ trivial (fun hHeld => ?_)
          (try simp only [Act.put, List.setIfInBounds_toArray, List.set_cons_zero, List.set_cons_succ])
          refine wpAnyB_done (by kernel_rfl) ?_ _
          go_wp2
          go_meet
          exact ⟨_, rfl, hide (op_done HF4_X4.out HB4.out hge1 (Nat.le_refl _) hMw)⟩
      · skip
        go_simp
        go_at_call 35
        (with_reducible refine (byte_c M v l i _ HF1_X1.out.mk_ HF1_X1.out.by_ HR.out HNE.out x0 HX0.out).mono ?_)
        rintro e_ X2 ⟨rfl, hm2, hg2⟩
        have HB2 := hide (HB1_.out.call hg2 ne1)
        have HF2_X2 := hide (HF1_X1.out.call hm2 hg2 hRM HNE.out)
        clear hm2 hg2
        (try go_simp)
        refine hK.out _ _ trivial (fun hHeld => ?_)
        (try simp only [Act.put, List.setIfInBounds_toArray, List.set_cons_zero, List.set_cons_succ])
        refine tp 3 (h := ?_)
        refine wpAnyB_ready (rs := [0, 7]) (by kernel_rfl) (by simp) ?_
        refine AllReadyB.cons rfl (fun K hK => ?_) (AllReadyB.cons rfl (fun K hK => ?_) AllReadyB.nil)
        · skip
          go_simp
          obtain ⟨X3, eX3, hb3, hn3⟩ := bk_new X2 (.cells #[.int .i64 1, .int .i64 1, .int .i64 2, .int .i64 2, .int .i64 2, .int .i64 3, .int .i64 4, .int .i64 5] 3)
          rw [eX3]
          have HB3 := hide (HB2.out.below hb3)
          have HF3_X3 := hide (HF2_X2.out.below hb3)
          obtain ⟨C3, hC3⟩ : ∃ C, X2.heap.size = C := ⟨_, rfl⟩
          have hge3 : w.heap.size < C3 := by rw [← hC3]; exact HF2_X2.out.res.lt
          rw [hC3] at hn3 ⊢
          have ne3 : C3 ≠ M := by omega
          have HA3_ := hide hn3
          clear hn3 hC3 eX3
          (try go_simp)
          refine hK.out _ _ trivial (fun hHeld => ?_)
          (try simp only [Act.put, List.setIfInBounds_toArray, List.set_cons_zero, List.set_cons_succ])
          refine tp 4 (h := ?_)
          refine wpAnyB_ready (rs := [5, 7]) (by kernel_rfl) (by simp) ?_
          refine AllReadyB.cons rfl (fun K hK => ?_) (AllReadyB.cons rfl (fun K hK => ?_) AllReadyB.nil)
          · skip
            have cK := kind_cell HA3_.out hJ8 x0 HJ.out
            rw [HK.out] at cK
            go_simp
            clear cK
            (try go_simp)
            refine hK.out _ _ trivial (fun hHeld => ?_)
            (try simp only [Act.put, List.setIfInBounds_toArray, List.set_cons_zero, List.set_cons_succ])
            refine wpAnyB_ready (rs := [7]) (by kernel_rfl) (by simp) ?_
            refine AllReadyB.cons rfl (fun K hK => ?_) AllReadyB.nil
            go_simp
            go_at_call 35
            (with_reducible refine (byte_c M v l (i + 1) _ HF3_X3.out.mk_ HF3_X3.out.by_ HR.out HNE.out x1 HX1.out).mono ?_)
            rintro e_ X4 ⟨rfl, hm4, hg4⟩
            have HA4 := hide (HA3_.out.call hg4 ne3)
            have HB4 := hide (HB3.out.call hg4 ne1)
            have HF4_X4 := hide (HF3_X3.out.call hm4 hg4 hRM HNE.out)
            clear hm4 hg4
            (try go_simp)
            refine hK.out _ _ trivial (fun hHeld => ?_)
            (try simp only [Act.put, List.setIfInBounds_toArray, List.set_cons_zero, List.set_cons_succ])
            refine tp 9 (h := ?_)
            refine tp 10 (h := ?_)
            refine wpAnyB_ready (rs := [12]) (by kernel_rfl) (by simp) ?_
            refine AllReadyB.cons rfl (fun K hK => ?_) AllReadyB.nil
            obtain ⟨y0, y1, y2, y3⟩ := B4.all ⟨HB4.out⟩
            obtain ⟨y4, y5, y6, y7⟩ := B4.free ⟨HB4.out⟩
            go_simp
            (try go_simp)
            refine hK.out _ _ trivial (fun hHeld => ?_)
            (try simp only [Act.put, List.setIfInBounds_toArray, List.set_cons_zero, List.set_cons_succ])
            refine wpAnyB_done (by kernel_rfl) ?_ _
            go_wp2
            go_meet
            exact ⟨_, rfl, hide (op_done HF4_X4.out HB4.out hge1 (Nat.le_refl _) hMw)⟩
          · skip
            go_simp
            go_at_call 35
            (with_reducible refine (byte_c M v l (i + 1) _ HF3_X3.out.mk_ HF3_X3.out.by_ HR.out HNE.out x1 HX1.out).mono ?_)
            rintro e_ X4 ⟨rfl, hm4, hg4⟩
            have HA4 := hide (HA3_.out.call hg4 ne3)
            have HB4 := hide (HB3.out.call hg4 ne1)
            have HF4_X4 := hide (HF3_X3.out.call hm4 hg4 hRM HNE.out)
            clear hm4 hg4
            (try go_simp)
            refine hK.out _ _ trivial (fun hHeld => ?_)
            (try simp only [Act.put, List.setIfInBounds_toArray, List.set_cons_zero, List.set_cons_succ])
            refine tp 9 (h := ?_)
            refine wpAnyB_ready (rs := [5]) (by kernel_rfl) (by simp) ?_
            refine AllReadyB.cons rfl (fun K hK => ?_) AllReadyB.nil
            have cK := kind_cell HA4.out hJ8 x0 HJ.out
            rw [HK.out] at cK
            go_simp
            clear cK
            (try go_simp)
            refine hK.out _ _ trivial (fun hHeld => ?_)
            (try simp only [Act.put, List.setIfInBounds_toArray, List.set_cons_zero, List.set_cons_succ])
            refine tp 10 (h := ?_)
            refine wpAnyB_ready (rs := [12]) (by kernel_rfl) (by simp) ?_
            refine AllReadyB.cons rfl (fun K hK => ?_) AllReadyB.nil
            obtain ⟨y0, y1, y2, y3⟩ := B4.all ⟨HB4.out⟩
            obtain ⟨y4, y5, y6, y7⟩ := B4.free ⟨HB4.out⟩
            go_simp
            (try go_simp)
            refine hK.out _ _ trivial (fun hHeld => ?_)
            (try simp only [Act.put, List.setIfInBounds_toArray, List.set_cons_zero, List.set_cons_succ])
            refine wpAnyB_done (by kernel_rfl) ?_ _
            go_wp2
            go_meet
            exact ⟨_, rfl, hide (op_done HF4_X4.out HB4.out hge1 (Nat.le_refl _) hMw)⟩
        · skip
          go_simp
          go_at_call 35
          (with_reducible refine (byte_c M v l (i + 1) _ HF2_X2.out.mk_ HF2_X2.out.by_ HR.out HNE.out x1 HX1.out).mono ?_)
          rintro e_ X3 ⟨rfl, hm3, hg3⟩
          have HB3 := hide (HB2.out.call hg3 ne1)
          have HF3_X3 := hide (HF2_X2.out.call hm3 hg3 hRM HNE.out)
          clear hm3 hg3
          (try go_simp)
          refine hK.out _ _ trivial (fun hHeld => ?_)
          (try simp only [Act.put, List.setIfInBounds_toArray, List.set_cons_zero, List.set_cons_succ])
          refine tp 9 (h := ?_)
          refine wpAnyB_ready (rs := [0]) (by kernel_rfl) (by simp) ?_
          refine AllReadyB.cons rfl (fun K hK => ?_) AllReadyB.nil
          go_simp
          obtain ⟨X4, eX4, hb4, hn4⟩ := bk_new X3 (.cells #[.int .i64 1, .int .i64 1, .int .i64 2, .int .i64 2, .int .i64 2, .int .i64 3, .int .i64 4, .int .i64 5] 3)
          rw [eX4]
          have HB4 := hide (HB3.out.below hb4)
          have HF4_X4 := hide (HF3_X3.out.below hb4)
          obtain ⟨C4, hC4⟩ : ∃ C, X3.heap.size = C := ⟨_, rfl⟩
          have hge4 : w.heap.size < C4 := by rw [← hC4]; exact HF3_X3.out.res.lt
          rw [hC4] at hn4 ⊢
          have ne4 : C4 ≠ M := by omega
          have HA4_ := hide hn4
          clear hn4 hC4 eX4
          (try go_simp)
          refine hK.out _ _ trivial (fun hHeld => ?_)
          (try simp only [Act.put, List.setIfInBounds_toArray, List.set_cons_zero, List.set_cons_succ])
          refine tp 4 (h := ?_)
          refine wpAnyB_ready (rs := [5]) (by kernel_rfl) (by simp) ?_
          refine AllReadyB.cons rfl (fun K hK => ?_) AllReadyB.nil
          have cK := kind_cell HA4_.out hJ8 x0 HJ.out
          rw [HK.out] at cK
          go_simp
          clear cK
          (try go_simp)
          refine hK.out _ _ trivial (fun hHeld => ?_)
          (try simp only [Act.put, List.setIfInBounds_toArray, List.set_cons_zero, List.set_cons_succ])
          refine tp 10 (h := ?_)
          refine wpAnyB_ready (rs := [12]) (by kernel_rfl) (by simp) ?_
          refine AllReadyB.cons rfl (fun K hK => ?_) AllReadyB.nil
          obtain ⟨y0, y1, y2, y3⟩ := B4.all ⟨HB4.out⟩
          obtain ⟨y4, y5, y6, y7⟩ := B4.free ⟨HB4.out⟩
          go_simp
          (try go_simp)
          refine hK.out _ _ trivial (fun hHeld => ?_)
          (try simp only [Act.put, List.setIfInBounds_toArray, List.set_cons_zero, List.set_cons_succ])
          refine wpAnyB_done (by kernel_rfl) ?_ _
          go_wp2
          go_meet
          exact ⟨_, rfl, hide (op_done HF4_X4.out HB4.out hge1 (Nat.le_refl _) hMw)⟩
  case rest =>
    obtain ⟨B, rfl, HC⟩ := hcut
    have HFa := hide HC.out.1
    have hRB := HC.out.2.1
    have HB0 := hide HC.out.2.2
    have hBM : B ≠ M := by omega
    clear HC
    rcases hkr with rfl | rfl | rfl | rfl | rfl
    · have HQ := hide (show opG (byteG l) regs slots i = (⟨1, R, A, S⟩, i + 4) by rw [HO.out]; rfl)
      obtain ⟨y0, y1, y2, y3⟩ := HB0.out.all
      obtain ⟨y4, y5, y6, y7⟩ := HB0.out.free
      obtain ⟨z4, z5, z6, z7⟩ := HFa.out.res.free
      obtain ⟨z0, z1, z2, z3⟩ := HFa.out.res.all
      go_wp2_with fail
      (with_reducible refine (byte_c M v l (i + 2) _ HFa.out.mk_ HFa.out.by_ HR.out HNE.out x2 HX2.out).mono ?_)
      rintro e_ w5 ⟨rfl, hm5, hg5⟩
      have HF5 := hide (HFa.out.call hm5 hg5 hRM HNE.out)
      have HB5 := hide (HB0.out.call hg5 hBM)
      clear hm5 hg5
      clear y0 y1 y2 y3 y4 y5 y6 y7 z4 z5 z6 z7 z0 z1 z2 z3
      obtain ⟨w6, e6, hf6, hb6⟩ : ∃ Z, w5.setCell ⟨B, 2, none⟩ (.int .i64 A) = Z ∧ OpF w M v l w.heap.size (i + 2 + 1) Z ∧ B4 99 Z B (.int .i64 1) (.int .i64 R) (.int .i64 A) (.int .i64 0) := ⟨_, rfl, HF5.out.set (by omega) hMw (by omega) 2 _, HB5.out.putA _⟩
      have HE6 := hide e6
      have HF6 := hide hf6
      have HB6 := hide hb6
      clear e6 hf6 hb6
      obtain ⟨y0, y1, y2, y3⟩ := HB5.out.all
      obtain ⟨y4, y5, y6, y7⟩ := HB5.out.free
      go_upto_region 4 with (fail)
      rw [HE6.out]
      clear y0 y1 y2 y3 y4 y5 y6 y7
      obtain ⟨y0, y1, y2, y3⟩ := HB6.out.all
      obtain ⟨y4, y5, y6, y7⟩ := HB6.out.free
      obtain ⟨z4, z5, z6, z7⟩ := HF6.out.res.free
      obtain ⟨z0, z1, z2, z3⟩ := HF6.out.res.all
      go_wp2_with fail
      (with_reducible refine (byte_c M v l (i + 2 + 1) _ HF6.out.mk_ HF6.out.by_ HR.out HNE.out x3 HX3.out).mono ?_)
      rintro e_ w7 ⟨rfl, hm7, hg7⟩
      have HF7 := hide (HF6.out.call hm7 hg7 hRM HNE.out)
      have HB7 := hide (HB6.out.call hg7 hBM)
      clear hm7 hg7
      clear y0 y1 y2 y3 y4 y5 y6 y7 z4 z5 z6 z7 z0 z1 z2 z3
      obtain ⟨w8, e8, hf8, hb8⟩ : ∃ Z, w7.setCell ⟨B, 3, none⟩ (.int .i64 S) = Z ∧ OpF w M v l w.heap.size (i + 2 + 1 + 1) Z ∧ B4 99 Z B (.int .i64 1) (.int .i64 R) (.int .i64 A) (.int .i64 S) := ⟨_, rfl, HF7.out.set (by omega) hMw (by omega) 3 _, HB7.out.putS _⟩
      have HE8 := hide e8
      have HF8 := hide hf8
      have HB8 := hide hb8
      clear e8 hf8 hb8
      obtain ⟨y0, y1, y2, y3⟩ := HB7.out.all
      obtain ⟨y4, y5, y6, y7⟩ := HB7.out.free
      go_upto_region 6 with (fail)
      rw [HE8.out]
      clear y0 y1 y2 y3 y4 y5 y6 y7
      obtain ⟨y0, y1, y2, y3⟩ := HB8.out.all
      obtain ⟨y4, y5, y6, y7⟩ := HB8.out.free
      obtain ⟨z4, z5, z6, z7⟩ := HF8.out.res.free
      obtain ⟨z0, z1, z2, z3⟩ := HF8.out.res.all
      go_wp2
      obtain ⟨w9, e9, hm9, hg9, X9⟩ := op_ret HF8.out (Nat.le_refl _) hMw (.int .i64 1) (.int .i64 R) (.int .i64 A) (.int .i64 S)
      rw [e9]
      obtain ⟨u0, u1, u2, u3⟩ := X9.all
      refine bodyPost_ret (v := .agg #[.int .i64 1, .int .i64 R, .int .i64 A, .int .i64 S]) (by simp [results, Tryz.results37, go_sem, u0, u1, u2, u3]) rfl ⟨by rw [HQ.out], by rw [HQ.out]; exact hm9, hg9⟩
    · have HQ := hide (show opG (byteG l) regs slots i = (⟨2, R, A, S⟩, i + 4) by rw [HO.out]; rfl)
      obtain ⟨y0, y1, y2, y3⟩ := HB0.out.all
      obtain ⟨y4, y5, y6, y7⟩ := HB0.out.free
      obtain ⟨z4, z5, z6, z7⟩ := HFa.out.res.free
      obtain ⟨z0, z1, z2, z3⟩ := HFa.out.res.all
      go_wp2_with fail
      (with_reducible refine (byte_c M v l (i + 2) _ HFa.out.mk_ HFa.out.by_ HR.out HNE.out x2 HX2.out).mono ?_)
      rintro e_ w5 ⟨rfl, hm5, hg5⟩
      have HF5 := hide (HFa.out.call hm5 hg5 hRM HNE.out)
      have HB5 := hide (HB0.out.call hg5 hBM)
      clear hm5 hg5
      clear y0 y1 y2 y3 y4 y5 y6 y7 z4 z5 z6 z7 z0 z1 z2 z3
      obtain ⟨w6, e6, hf6, hb6⟩ : ∃ Z, w5.setCell ⟨B, 2, none⟩ (.int .i64 A) = Z ∧ OpF w M v l w.heap.size (i + 2 + 1) Z ∧ B4 99 Z B (.int .i64 2) (.int .i64 R) (.int .i64 A) (.int .i64 0) := ⟨_, rfl, HF5.out.set (by omega) hMw (by omega) 2 _, HB5.out.putA _⟩
      have HE6 := hide e6
      have HF6 := hide hf6
      have HB6 := hide hb6
      clear e6 hf6 hb6
      obtain ⟨y0, y1, y2, y3⟩ := HB5.out.all
      obtain ⟨y4, y5, y6, y7⟩ := HB5.out.free
      go_upto_region 4 with (fail)
      rw [HE6.out]
      clear y0 y1 y2 y3 y4 y5 y6 y7
      obtain ⟨y0, y1, y2, y3⟩ := HB6.out.all
      obtain ⟨y4, y5, y6, y7⟩ := HB6.out.free
      obtain ⟨z4, z5, z6, z7⟩ := HF6.out.res.free
      obtain ⟨z0, z1, z2, z3⟩ := HF6.out.res.all
      go_wp2_with fail
      (with_reducible refine (byte_c M v l (i + 2 + 1) _ HF6.out.mk_ HF6.out.by_ HR.out HNE.out x3 HX3.out).mono ?_)
      rintro e_ w7 ⟨rfl, hm7, hg7⟩
      have HF7 := hide (HF6.out.call hm7 hg7 hRM HNE.out)
      have HB7 := hide (HB6.out.call hg7 hBM)
      clear hm7 hg7
      clear y0 y1 y2 y3 y4 y5 y6 y7 z4 z5 z6 z7 z0 z1 z2 z3
      obtain ⟨w8, e8, hf8, hb8⟩ : ∃ Z, w7.setCell ⟨B, 3, none⟩ (.int .i64 S) = Z ∧ OpF w M v l w.heap.size (i + 2 + 1 + 1) Z ∧ B4 99 Z B (.int .i64 2) (.int .i64 R) (.int .i64 A) (.int .i64 S) := ⟨_, rfl, HF7.out.set (by omega) hMw (by omega) 3 _, HB7.out.putS _⟩
      have HE8 := hide e8
      have HF8 := hide hf8
      have HB8 := hide hb8
      clear e8 hf8 hb8
      obtain ⟨y0, y1, y2, y3⟩ := HB7.out.all
      obtain ⟨y4, y5, y6, y7⟩ := HB7.out.free
      go_upto_region 6 with (fail)
      rw [HE8.out]
      clear y0 y1 y2 y3 y4 y5 y6 y7
      obtain ⟨y0, y1, y2, y3⟩ := HB8.out.all
      obtain ⟨y4, y5, y6, y7⟩ := HB8.out.free
      obtain ⟨z4, z5, z6, z7⟩ := HF8.out.res.free
      obtain ⟨z0, z1, z2, z3⟩ := HF8.out.res.all
      go_wp2
      obtain ⟨w9, e9, hm9, hg9, X9⟩ := op_ret HF8.out (Nat.le_refl _) hMw (.int .i64 2) (.int .i64 R) (.int .i64 A) (.int .i64 S)
      rw [e9]
      obtain ⟨u0, u1, u2, u3⟩ := X9.all
      refine bodyPost_ret (v := .agg #[.int .i64 2, .int .i64 R, .int .i64 A, .int .i64 S]) (by simp [results, Tryz.results37, go_sem, u0, u1, u2, u3]) rfl ⟨by rw [HQ.out], by rw [HQ.out]; exact hm9, hg9⟩
    · have HQ := hide (show opG (byteG l) regs slots i = (⟨3, R, 0, 0⟩, i + 2) by rw [HO.out]; rfl)
      obtain ⟨y0, y1, y2, y3⟩ := HB0.out.all
      obtain ⟨y4, y5, y6, y7⟩ := HB0.out.free
      obtain ⟨z4, z5, z6, z7⟩ := HFa.out.res.free
      obtain ⟨z0, z1, z2, z3⟩ := HFa.out.res.all
      go_wp2
      obtain ⟨w9, e9, hm9, hg9, X9⟩ := op_ret HFa.out (Nat.le_refl _) hMw (.int .i64 3) (.int .i64 R) (.int .i64 0) (.int .i64 0)
      rw [e9]
      obtain ⟨u0, u1, u2, u3⟩ := X9.all
      refine bodyPost_ret (v := .agg #[.int .i64 3, .int .i64 R, .int .i64 0, .int .i64 0]) (by simp [results, Tryz.results37, go_sem, u0, u1, u2, u3]) rfl ⟨by rw [HQ.out], by rw [HQ.out]; exact hm9, hg9⟩
    · have HQ := hide (show opG (byteG l) regs slots i = (⟨4, R, A, 0⟩, i + 3) by rw [HO.out]; rfl)
      obtain ⟨y0, y1, y2, y3⟩ := HB0.out.all
      obtain ⟨y4, y5, y6, y7⟩ := HB0.out.free
      obtain ⟨z4, z5, z6, z7⟩ := HFa.out.res.free
      obtain ⟨z0, z1, z2, z3⟩ := HFa.out.res.all
      go_wp2_with fail
      (with_reducible refine (byte_c M v l (i + 2) _ HFa.out.mk_ HFa.out.by_ HR.out HNE.out x2 HX2.out).mono ?_)
      rintro e_ w5 ⟨rfl, hm5, hg5⟩
      have HF5 := hide (HFa.out.call hm5 hg5 hRM HNE.out)
      have HB5 := hide (HB0.out.call hg5 hBM)
      clear hm5 hg5
      clear y0 y1 y2 y3 y4 y5 y6 y7 z4 z5 z6 z7 z0 z1 z2 z3
      obtain ⟨w6, e6, hf6, hb6⟩ : ∃ Z, w5.setCell ⟨B, 2, none⟩ (.int .i64 A) = Z ∧ OpF w M v l w.heap.size (i + 2 + 1) Z ∧ B4 99 Z B (.int .i64 4) (.int .i64 R) (.int .i64 A) (.int .i64 0) := ⟨_, rfl, HF5.out.set (by omega) hMw (by omega) 2 _, HB5.out.putA _⟩
      have HE6 := hide e6
      have HF6 := hide hf6
      have HB6 := hide hb6
      clear e6 hf6 hb6
      obtain ⟨y0, y1, y2, y3⟩ := HB5.out.all
      obtain ⟨y4, y5, y6, y7⟩ := HB5.out.free
      go_upto_region 4 with (fail)
      rw [HE6.out]
      clear y0 y1 y2 y3 y4 y5 y6 y7
      obtain ⟨y0, y1, y2, y3⟩ := HB6.out.all
      obtain ⟨y4, y5, y6, y7⟩ := HB6.out.free
      obtain ⟨z4, z5, z6, z7⟩ := HF6.out.res.free
      obtain ⟨z0, z1, z2, z3⟩ := HF6.out.res.all
      go_wp2
      obtain ⟨w9, e9, hm9, hg9, X9⟩ := op_ret HF6.out (Nat.le_refl _) hMw (.int .i64 4) (.int .i64 R) (.int .i64 A) (.int .i64 0)
      rw [e9]
      obtain ⟨u0, u1, u2, u3⟩ := X9.all
      refine bodyPost_ret (v := .agg #[.int .i64 4, .int .i64 R, .int .i64 A, .int .i64 0]) (by simp [results, Tryz.results37, go_sem, u0, u1, u2, u3]) rfl ⟨by rw [HQ.out], by rw [HQ.out]; exact hm9, hg9⟩
    · have HQ := hide (show opG (byteG l) regs slots i = (⟨5, R, 0, 0⟩, i + 2) by rw [HO.out]; rfl)
      obtain ⟨y0, y1, y2, y3⟩ := HB0.out.all
      obtain ⟨y4, y5, y6, y7⟩ := HB0.out.free
      obtain ⟨z4, z5, z6, z7⟩ := HFa.out.res.free
      obtain ⟨z0, z1, z2, z3⟩ := HFa.out.res.all
      go_wp2
      obtain ⟨w9, e9, hm9, hg9, X9⟩ := op_ret HFa.out (Nat.le_refl _) hMw (.int .i64 5) (.int .i64 R) (.int .i64 0) (.int .i64 0)
      rw [e9]
      obtain ⟨u0, u1, u2, u3⟩ := X9.all
      refine bodyPost_ret (v := .agg #[.int .i64 5, .int .i64 R, .int .i64 0, .int .i64 0]) (by simp [results, Tryz.results37, go_sem, u0, u1, u2, u3]) rfl ⟨by rw [HQ.out], by rw [HQ.out]; exact hm9, hg9⟩
end Go.Proofs.YtdmbcjckgfjcaaaGreatDoor
