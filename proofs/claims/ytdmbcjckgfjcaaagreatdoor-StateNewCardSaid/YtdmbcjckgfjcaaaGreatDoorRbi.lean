/- Layer state: slices.Chunk's iterator. Written by tools/genstatee.py. -/
import Derived.RangeFuncBox
import Derived.RangeFuncNested
import Derived.RangeFuncBound
import Derived.RangeFuncCalls
import Derived.RangeFuncLeaves
import Derived.Shelf.Abstract
import Derived.Shelf.AbstractIn
import Derived.WalkKit
import Derived.OwnWalkIn
import Derived.TacticsInMore
import Derived.LoopNIn
import Derived.LoopIn
import Derived.Test.YtdmbcjckgfjcaaaGreatDoorRaz
import Derived.Test.YtdmbcjckgfjcaaaGreatDoorRbh
namespace Go.Proofs.YtdmbcjckgfjcaaaGreatDoor
open Go.RowKit Go.Shelf Go.Proofs
attribute [local go_sem] Oper.semAt_some
/-- a piece, and what it reads as -/
abbrev Pc (w : World) := { x : Hd × List Int // Ints w (hdV x.1) x.2 ∧ x.2.length ≤ 64 }
def pcs {w : World} (l : List (Pc w)) : List (List Int) := l.map fun x => x.1.2
theorem pcs_snoc {w : World} (l : List (Pc w)) (x : Pc w) : pcs (l ++ [x]) = pcs l ++ [x.1.2] := by simp [pcs]
theorem pcs_len {w : World} (l : List (Pc w)) : (pcs l).length = l.length := by simp [pcs]
theorem cut3 {w : World} {b off m c i e : Nat} {g : List Int} (h : Ints w (.slice (some ⟨b, off, none⟩) m c) g) (hm : g.length = m) (hi : i + e ≤ m) : Ints w (.slice (some ⟨b, off + i, none⟩) e e) ((g.drop i).take e) := by
  have hl : ((g.drop i).take e).length = e := by rw [List.length_take, List.length_drop]; omega
  obtain ⟨A', c', e', h1, h2, h3⟩ := h
  injection e' with e1 e2 e3
  subst e1
  refine ⟨_, e, by rw [hl], by rw [hl]; exact Nat.le_refl _, by omega, fun h0 => ?_⟩
  rw [hl] at h0
  obtain ⟨b', off', e4, hb, hc⟩ := h3 (by omega)
  injection e4 with e4
  injection e4 with e5 e6
  subst e5 e6
  refine ⟨b, off + i, rfl, hb, fun k p hp j u hu => ?_⟩
  rw [List.getElem?_take] at hp
  split at hp
  · rw [List.getElem?_drop] at hp
    have := hc (i + k) p hp j u hu
    rwa [show off + (i + k) * 1 + j = off + i + k * 1 + j by omega] at this
  · cases hp
/-- the iterator's two boxes are as they were -/
def KpB (Bs Bn : Nat) (W W' : World) : Prop := W'.heap[Bs]? = W.heap[Bs]? ∧ W'.heap[Bn]? = W.heap[Bn]?
theorem KpB.trans {Bs Bn : Nat} {A B C : World} (h : KpB Bs Bn A B) (k : KpB Bs Bn B C) : KpB Bs Bn A C := ⟨k.1.trans h.1, k.2.trans h.2⟩
theorem KpB.put {Bs Bn n : Nat} (h1 : Bs < n) (h2 : Bn < n) (W : World) (l : Nat) (o' : Obj) (hl : n ≤ l) : KpB Bs Bn W (W.putObj l o') := ⟨World.putObj_heap_other (by omega), World.putObj_heap_other (by omega)⟩
set_option maxRecDepth 100000 in
set_option maxHeartbeats 8000000 in
theorem chunk_in (n : Nat) (hn : 1 ≤ n) (l Bs Bn : Nat) (w0 : World) (A : Option Addr) (c m s : Nat) (g : List Int) (hg : Ints w0 (.slice A m c) g) (hgm : g.length = m) (hm : m ≤ 1000) (hs1 : 1 ≤ s) (hs2 : s ≤ 64) (J Jx : List (Pc w0) → World → Prop)
    (hJd : ∀ pre W, J pre W → J pre W.drew) (hY : ∀ pre (x : Pc w0) W, J pre W → pre.length < fullN s m → YieldAt Fence.wide (n - 1) Tryz.prog l #[hdV x.1.1] W fun e W' =>
      (e = .returned (.bool true) ∧ J (pre ++ [x]) W' ∧ KpB Bs Bn W W') ∨ (e = .returned (.bool false) ∧ Jx (pre ++ [x]) W'))
    (W : World) (hBs : W.cell? ⟨Bs, 0, none⟩ = some (.slice A m c)) (hBn : W.cell? ⟨Bn, 0, none⟩ = some (.int .i64 (s : Int))) (h0 : J [] W) :
    CallsIn Fence.wide n Tryz.prog 150 #[.func (.yield l) #[] #[], .pointer (some ⟨Bs, 0, none⟩), .pointer (some ⟨Bn, 0, none⟩)] W fun e W' => (∃ v, e = .returned v) ∧
      ((∃ ys, pcs ys = chunk s (fullN s m) g ∧ J ys W') ∨ (∃ pre, True ∧ Jx pre W')) := by
  refine callsIn_of_wp Tryz.func150 rfl trivial ?_ rfl
  simp only [Tryz.ntmps150, List.size_toArray, List.length_cons, List.length_nil, Nat.reduceAdd, Nat.reduceSub, Array.replicate_succ, Array.replicate_zero, List.push_toArray, List.append_toArray, List.nil_append, List.cons_append]
  have hform := hg
  obtain ⟨A_, c_, e_, hc1, hc2, -⟩ := hform
  injection e_ with e1_ e2_ e3_
  subst e1_ e3_
  rw [hgm] at hc1
  unfold maxLen at hc2
  have HGi := Go.Lib.hid hg
  have HGM := Go.Lib.hid hgm
  clear hg hgm e2_
  gi_wp2
  gi_loopw [4] (fun p wr => ∃ (pre : List (Pc w0)) (k : Nat), p = .int .i64 ((s * k : Nat) : Int) ∧ k ≤ fullN s m ∧ pcs pre = chunk s k g ∧ wr.cell? ⟨Bs, 0, none⟩ = some (.slice A m c) ∧ wr.cell? ⟨Bn, 0, none⟩ = some (.int .i64 (s : Int)) ∧ J pre wr)
    (fun p _ => m + 64 - (Go.RowKit.intOf p).toNat)
  case atStart => exact ⟨[], 0, rfl, Nat.zero_le _, rfl, hBs, hBn, h0⟩
  case round =>
    obtain ⟨pre, k, rfl, hk, hx, hbs, hbn, hJs⟩ := hrel
    obtain ⟨i, hi⟩ : ∃ i, s * k = i := ⟨_, rfl⟩
    have hkf := full_iff (k := s) (by omega) m k
    rw [hi] at hkf ⊢
    have HI := Go.Lib.hid hi
    have HX := Go.Lib.hid hx
    have HKF := Go.Lib.hid hkf
    have HK := Go.Lib.hid hk
    clear hi hx hkf
    by_cases hlt' : i < m
    · have hkl : k < fullN s m := HKF.out.2 hlt'
      have hpl : pre.length < fullN s m := by rw [← pcs_len, HX.out, chunk_len]; exact hkl
      obtain ⟨e, he⟩ : ∃ e, min s (m - i) = e := ⟨_, rfl⟩
      have he1 : e ≤ m - i := by omega
      have he2 : (min (s : Int) ((m - i : Nat) : Int)) = (e : Int) := by omega
      have hw2 : ((i : Int) + (e : Int)).toNat - i = e := by omega
      obtain ⟨b, off, rfl⟩ : ∃ b off, A = some ⟨b, off, none⟩ := by
        obtain ⟨A', c', e4, -, -, h3⟩ := HGi.out
        injection e4 with e5
        subst e5
        obtain ⟨b, off, rfl, -⟩ := h3 (by omega)
        exact ⟨b, off, rfl⟩
      obtain ⟨x, hxe⟩ : ∃ x : Pc w0, x.1 = (((some ⟨b, off + i, none⟩, e, e) : Hd), (g.drop i).take e) := ⟨⟨_, cut3 (i := i) (e := e) HGi.out HGM.out (by omega), by show ((g.drop i).take e).length ≤ 64; rw [List.length_take]; omega⟩, rfl⟩
      obtain ⟨fn, tmps, assign, body, hy, hR⟩ := hY pre x wr.drew (hJd _ _ hJs) hpl
      have ev : hdV x.1.1 = .slice (some ⟨b, off + i, none⟩) e e := by rw [hxe]
      rw [ev] at hy
      have HR := Go.Lib.hid hR
      have HE := Go.Lib.hid he
      have HXE := Go.Lib.hid hxe
      clear hR he hkl hpl hk hxe ev
      (try dsimp only at hy)
      gi_wp2
      refine wpIn_region_orders (L := [[0, 1, 2, 3, 4, 5, 6], [0, 2, 1, 3, 4, 5, 6], [1, 0, 2, 3, 4, 5, 6], [1, 2, 0, 3, 4, 5, 6], [1, 2, 3, 0, 4, 5, 6], [1, 2, 3, 4, 0, 5, 6], [2, 0, 1, 3, 4, 5, 6], [2, 1, 0, 3, 4, 5, 6], [2, 1, 3, 0, 4, 5, 6], [2, 1, 3, 4, 0, 5, 6]]) (by kernel_rfl) (by kernel_rfl) ?_
      intro o ho
      simp only [List.mem_cons, List.not_mem_nil, or_false] at ho
      rcases ho with rfl | rfl | rfl | rfl | rfl | rfl | rfl | rfl | rfl | rfl
      · show wpListIn _ _ _ _ _ [{ dst := some 13, op := Op.load 3 (Operand.tmp 2), type := 3, pos := "iter.go:105", after := #[], guard := none }, { dst := some 14, op := Op.load 47 (Operand.tmp 1), type := 47, pos := "iter.go:105", after := #[], guard := none }, { dst := some 15, op := Op.move (Operand.tmp 4), type := 3, pos := "iter.go:105", after := #[], guard := none }, { dst := some 16, op := Op.slice 47 (Operand.tmp 14) (some (Operand.tmp 15)) none none, type := 47, pos := "iter.go:105", after := #[{ on := 1, ground := Ground.data }, { on := 2, ground := Ground.data }], guard := none }, { dst := some 17, op := Op.call { callee := Callee.builtin Builtin.len, args := #[Operand.tmp 16], argTypes := #[47] }, type := 3, pos := "iter.go:105", after := #[{ on := 3, ground := Ground.data }], guard := none }, { dst := some 18, op := Op.call { callee := Callee.builtin Builtin.min, args := #[Operand.tmp 13, Operand.tmp 17], argTypes := #[3, 3] }, type := 3, pos := "iter.go:105", after := #[{ on := 0, ground := Ground.data }, { on := 4, ground := Ground.data }], guard := none }, { dst := some 5, op := Op.assign (Operand.tmp 18), type := 3, pos := "iter.go:105", after := #[{ on := 5, ground := Ground.data }, { on := 0, ground := Ground.phase }, { on := 1, ground := Ground.phase }, { on := 2, ground := Ground.phase }, { on := 3, ground := Ground.phase }, { on := 4, ground := Ground.phase }, { on := 5, ground := Ground.phase }], guard := none }] _ _
        gi_wp2
        refine HR.out.mono ?_
        rintro e_ W3 (⟨rfl, hJ3, hk3⟩ | ⟨rfl, hJx3⟩)
        · have hbs3 : W3.cell? ⟨Bs, 0, none⟩ = some (.slice (some ⟨b, off, none⟩) m c) := (World.cell?_of_block (a := ⟨Bs, 0, none⟩) hk3.1).trans hbs
          have hbn3 : W3.cell? ⟨Bn, 0, none⟩ = some (.int .i64 (s : Int)) := (World.cell?_of_block (a := ⟨Bn, 0, none⟩) hk3.2).trans hbn
          gi_wp2
          refine ⟨⟨pre ++ [x], k + 1, ?_, HKF.out.2 hlt', ?_, hbs3, hbn3, hJ3⟩, ?_⟩
          · rw [← HI.out]; congr 1; all_goals (rw [Nat.mul_succ]; push_cast; rfl)
          · rw [pcs_snoc, HX.out, HXE.out, chunk_snoc, HI.out]
            show chunk s k g ++ [(g.drop i).take e] = chunk s k g ++ [(g.drop i).take s]
            congr 2
            rw [← HE.out, ← HGM.out, ← List.length_drop, List.take_eq_take_iff]
            omega
          · simp [Go.RowKit.intOf]; omega
        · gi_wp2
          refine bodyPost_ret (results_none rfl _ _ _) rfl ?_
          exact ⟨⟨_, rfl⟩, .inr ⟨pre ++ [x], trivial, hJx3⟩⟩
      · show wpListIn _ _ _ _ _ [{ dst := some 13, op := Op.load 3 (Operand.tmp 2), type := 3, pos := "iter.go:105", after := #[], guard := none }, { dst := some 15, op := Op.move (Operand.tmp 4), type := 3, pos := "iter.go:105", after := #[], guard := none }, { dst := some 14, op := Op.load 47 (Operand.tmp 1), type := 47, pos := "iter.go:105", after := #[], guard := none }, { dst := some 16, op := Op.slice 47 (Operand.tmp 14) (some (Operand.tmp 15)) none none, type := 47, pos := "iter.go:105", after := #[{ on := 1, ground := Ground.data }, { on := 2, ground := Ground.data }], guard := none }, { dst := some 17, op := Op.call { callee := Callee.builtin Builtin.len, args := #[Operand.tmp 16], argTypes := #[47] }, type := 3, pos := "iter.go:105", after := #[{ on := 3, ground := Ground.data }], guard := none }, { dst := some 18, op := Op.call { callee := Callee.builtin Builtin.min, args := #[Operand.tmp 13, Operand.tmp 17], argTypes := #[3, 3] }, type := 3, pos := "iter.go:105", after := #[{ on := 0, ground := Ground.data }, { on := 4, ground := Ground.data }], guard := none }, { dst := some 5, op := Op.assign (Operand.tmp 18), type := 3, pos := "iter.go:105", after := #[{ on := 5, ground := Ground.data }, { on := 0, ground := Ground.phase }, { on := 1, ground := Ground.phase }, { on := 2, ground := Ground.phase }, { on := 3, ground := Ground.phase }, { on := 4, ground := Ground.phase }, { on := 5, ground := Ground.phase }], guard := none }] _ _
        gi_wp2
        refine HR.out.mono ?_
        rintro e_ W3 (⟨rfl, hJ3, hk3⟩ | ⟨rfl, hJx3⟩)
        · have hbs3 : W3.cell? ⟨Bs, 0, none⟩ = some (.slice (some ⟨b, off, none⟩) m c) := (World.cell?_of_block (a := ⟨Bs, 0, none⟩) hk3.1).trans hbs
          have hbn3 : W3.cell? ⟨Bn, 0, none⟩ = some (.int .i64 (s : Int)) := (World.cell?_of_block (a := ⟨Bn, 0, none⟩) hk3.2).trans hbn
          gi_wp2
          refine ⟨⟨pre ++ [x], k + 1, ?_, HKF.out.2 hlt', ?_, hbs3, hbn3, hJ3⟩, ?_⟩
          · rw [← HI.out]; congr 1; all_goals (rw [Nat.mul_succ]; push_cast; rfl)
          · rw [pcs_snoc, HX.out, HXE.out, chunk_snoc, HI.out]
            show chunk s k g ++ [(g.drop i).take e] = chunk s k g ++ [(g.drop i).take s]
            congr 2
            rw [← HE.out, ← HGM.out, ← List.length_drop, List.take_eq_take_iff]
            omega
          · simp [Go.RowKit.intOf]; omega
        · gi_wp2
          refine bodyPost_ret (results_none rfl _ _ _) rfl ?_
          exact ⟨⟨_, rfl⟩, .inr ⟨pre ++ [x], trivial, hJx3⟩⟩
      · show wpListIn _ _ _ _ _ [{ dst := some 14, op := Op.load 47 (Operand.tmp 1), type := 47, pos := "iter.go:105", after := #[], guard := none }, { dst := some 13, op := Op.load 3 (Operand.tmp 2), type := 3, pos := "iter.go:105", after := #[], guard := none }, { dst := some 15, op := Op.move (Operand.tmp 4), type := 3, pos := "iter.go:105", after := #[], guard := none }, { dst := some 16, op := Op.slice 47 (Operand.tmp 14) (some (Operand.tmp 15)) none none, type := 47, pos := "iter.go:105", after := #[{ on := 1, ground := Ground.data }, { on := 2, ground := Ground.data }], guard := none }, { dst := some 17, op := Op.call { callee := Callee.builtin Builtin.len, args := #[Operand.tmp 16], argTypes := #[47] }, type := 3, pos := "iter.go:105", after := #[{ on := 3, ground := Ground.data }], guard := none }, { dst := some 18, op := Op.call { callee := Callee.builtin Builtin.min, args := #[Operand.tmp 13, Operand.tmp 17], argTypes := #[3, 3] }, type := 3, pos := "iter.go:105", after := #[{ on := 0, ground := Ground.data }, { on := 4, ground := Ground.data }], guard := none }, { dst := some 5, op := Op.assign (Operand.tmp 18), type := 3, pos := "iter.go:105", after := #[{ on := 5, ground := Ground.data }, { on := 0, ground := Ground.phase }, { on := 1, ground := Ground.phase }, { on := 2, ground := Ground.phase }, { on := 3, ground := Ground.phase }, { on := 4, ground := Ground.phase }, { on := 5, ground := Ground.phase }], guard := none }] _ _
        gi_wp2
        refine HR.out.mono ?_
        rintro e_ W3 (⟨rfl, hJ3, hk3⟩ | ⟨rfl, hJx3⟩)
        · have hbs3 : W3.cell? ⟨Bs, 0, none⟩ = some (.slice (some ⟨b, off, none⟩) m c) := (World.cell?_of_block (a := ⟨Bs, 0, none⟩) hk3.1).trans hbs
          have hbn3 : W3.cell? ⟨Bn, 0, none⟩ = some (.int .i64 (s : Int)) := (World.cell?_of_block (a := ⟨Bn, 0, none⟩) hk3.2).trans hbn
          gi_wp2
          refine ⟨⟨pre ++ [x], k + 1, ?_, HKF.out.2 hlt', ?_, hbs3, hbn3, hJ3⟩, ?_⟩
          · rw [← HI.out]; congr 1; all_goals (rw [Nat.mul_succ]; push_cast; rfl)
          · rw [pcs_snoc, HX.out, HXE.out, chunk_snoc, HI.out]
            show chunk s k g ++ [(g.drop i).take e] = chunk s k g ++ [(g.drop i).take s]
            congr 2
            rw [← HE.out, ← HGM.out, ← List.length_drop, List.take_eq_take_iff]
            omega
          · simp [Go.RowKit.intOf]; omega
        · gi_wp2
          refine bodyPost_ret (results_none rfl _ _ _) rfl ?_
          exact ⟨⟨_, rfl⟩, .inr ⟨pre ++ [x], trivial, hJx3⟩⟩
      · show wpListIn _ _ _ _ _ [{ dst := some 14, op := Op.load 47 (Operand.tmp 1), type := 47, pos := "iter.go:105", after := #[], guard := none }, { dst := some 15, op := Op.move (Operand.tmp 4), type := 3, pos := "iter.go:105", after := #[], guard := none }, { dst := some 13, op := Op.load 3 (Operand.tmp 2), type := 3, pos := "iter.go:105", after := #[], guard := none }, { dst := some 16, op := Op.slice 47 (Operand.tmp 14) (some (Operand.tmp 15)) none none, type := 47, pos := "iter.go:105", after := #[{ on := 1, ground := Ground.data }, { on := 2, ground := Ground.data }], guard := none }, { dst := some 17, op := Op.call { callee := Callee.builtin Builtin.len, args := #[Operand.tmp 16], argTypes := #[47] }, type := 3, pos := "iter.go:105", after := #[{ on := 3, ground := Ground.data }], guard := none }, { dst := some 18, op := Op.call { callee := Callee.builtin Builtin.min, args := #[Operand.tmp 13, Operand.tmp 17], argTypes := #[3, 3] }, type := 3, pos := "iter.go:105", after := #[{ on := 0, ground := Ground.data }, { on := 4, ground := Ground.data }], guard := none }, { dst := some 5, op := Op.assign (Operand.tmp 18), type := 3, pos := "iter.go:105", after := #[{ on := 5, ground := Ground.data }, { on := 0, ground := Ground.phase }, { on := 1, ground := Ground.phase }, { on := 2, ground := Ground.phase }, { on := 3, ground := Ground.phase }, { on := 4, ground := Ground.phase }, { on := 5, ground := Ground.phase }], guard := none }] _ _
        gi_wp2
        refine HR.out.mono ?_
        rintro e_ W3 (⟨rfl, hJ3, hk3⟩ | ⟨rfl, hJx3⟩)
        · have hbs3 : W3.cell? ⟨Bs, 0, none⟩ = some (.slice (some ⟨b, off, none⟩) m c) := (World.cell?_of_block (a := ⟨Bs, 0, none⟩) hk3.1).trans hbs
          have hbn3 : W3.cell? ⟨Bn, 0, none⟩ = some (.int .i64 (s : Int)) := (World.cell?_of_block (a := ⟨Bn, 0, none⟩) hk3.2).trans hbn
          gi_wp2
          refine ⟨⟨pre ++ [x], k + 1, ?_, HKF.out.2 hlt', ?_, hbs3, hbn3, hJ3⟩, ?_⟩
          · rw [← HI.out]; congr 1; all_goals (rw [Nat.mul_succ]; push_cast; rfl)
          · rw [pcs_snoc, HX.out, HXE.out, chunk_snoc, HI.out]
            show chunk s k g ++ [(g.drop i).take e] = chunk s k g ++ [(g.drop i).take s]
            congr 2
            rw [← HE.out, ← HGM.out, ← List.length_drop, List.take_eq_take_iff]
            omega
          · simp [Go.RowKit.intOf]; omega
        · gi_wp2
          refine bodyPost_ret (results_none rfl _ _ _) rfl ?_
          exact ⟨⟨_, rfl⟩, .inr ⟨pre ++ [x], trivial, hJx3⟩⟩
      · show wpListIn _ _ _ _ _ [{ dst := some 14, op := Op.load 47 (Operand.tmp 1), type := 47, pos := "iter.go:105", after := #[], guard := none }, { dst := some 15, op := Op.move (Operand.tmp 4), type := 3, pos := "iter.go:105", after := #[], guard := none }, { dst := some 16, op := Op.slice 47 (Operand.tmp 14) (some (Operand.tmp 15)) none none, type := 47, pos := "iter.go:105", after := #[{ on := 1, ground := Ground.data }, { on := 2, ground := Ground.data }], guard := none }, { dst := some 13, op := Op.load 3 (Operand.tmp 2), type := 3, pos := "iter.go:105", after := #[], guard := none }, { dst := some 17, op := Op.call { callee := Callee.builtin Builtin.len, args := #[Operand.tmp 16], argTypes := #[47] }, type := 3, pos := "iter.go:105", after := #[{ on := 3, ground := Ground.data }], guard := none }, { dst := some 18, op := Op.call { callee := Callee.builtin Builtin.min, args := #[Operand.tmp 13, Operand.tmp 17], argTypes := #[3, 3] }, type := 3, pos := "iter.go:105", after := #[{ on := 0, ground := Ground.data }, { on := 4, ground := Ground.data }], guard := none }, { dst := some 5, op := Op.assign (Operand.tmp 18), type := 3, pos := "iter.go:105", after := #[{ on := 5, ground := Ground.data }, { on := 0, ground := Ground.phase }, { on := 1, ground := Ground.phase }, { on := 2, ground := Ground.phase }, { on := 3, ground := Ground.phase }, { on := 4, ground := Ground.phase }, { on := 5, ground := Ground.phase }], guard := none }] _ _
        gi_wp2
        refine HR.out.mono ?_
        rintro e_ W3 (⟨rfl, hJ3, hk3⟩ | ⟨rfl, hJx3⟩)
        · have hbs3 : W3.cell? ⟨Bs, 0, none⟩ = some (.slice (some ⟨b, off, none⟩) m c) := (World.cell?_of_block (a := ⟨Bs, 0, none⟩) hk3.1).trans hbs
          have hbn3 : W3.cell? ⟨Bn, 0, none⟩ = some (.int .i64 (s : Int)) := (World.cell?_of_block (a := ⟨Bn, 0, none⟩) hk3.2).trans hbn
          gi_wp2
          refine ⟨⟨pre ++ [x], k + 1, ?_, HKF.out.2 hlt', ?_, hbs3, hbn3, hJ3⟩, ?_⟩
          · rw [← HI.out]; congr 1; all_goals (rw [Nat.mul_succ]; push_cast; rfl)
          · rw [pcs_snoc, HX.out, HXE.out, chunk_snoc, HI.out]
            show chunk s k g ++ [(g.drop i).take e] = chunk s k g ++ [(g.drop i).take s]
            congr 2
            rw [← HE.out, ← HGM.out, ← List.length_drop, List.take_eq_take_iff]
            omega
          · simp [Go.RowKit.intOf]; omega
        · gi_wp2
          refine bodyPost_ret (results_none rfl _ _ _) rfl ?_
          exact ⟨⟨_, rfl⟩, .inr ⟨pre ++ [x], trivial, hJx3⟩⟩
      · show wpListIn _ _ _ _ _ [{ dst := some 14, op := Op.load 47 (Operand.tmp 1), type := 47, pos := "iter.go:105", after := #[], guard := none }, { dst := some 15, op := Op.move (Operand.tmp 4), type := 3, pos := "iter.go:105", after := #[], guard := none }, { dst := some 16, op := Op.slice 47 (Operand.tmp 14) (some (Operand.tmp 15)) none none, type := 47, pos := "iter.go:105", after := #[{ on := 1, ground := Ground.data }, { on := 2, ground := Ground.data }], guard := none }, { dst := some 17, op := Op.call { callee := Callee.builtin Builtin.len, args := #[Operand.tmp 16], argTypes := #[47] }, type := 3, pos := "iter.go:105", after := #[{ on := 3, ground := Ground.data }], guard := none }, { dst := some 13, op := Op.load 3 (Operand.tmp 2), type := 3, pos := "iter.go:105", after := #[], guard := none }, { dst := some 18, op := Op.call { callee := Callee.builtin Builtin.min, args := #[Operand.tmp 13, Operand.tmp 17], argTypes := #[3, 3] }, type := 3, pos := "iter.go:105", after := #[{ on := 0, ground := Ground.data }, { on := 4, ground := Ground.data }], guard := none }, { dst := some 5, op := Op.assign (Operand.tmp 18), type := 3, pos := "iter.go:105", after := #[{ on := 5, ground := Ground.data }, { on := 0, ground := Ground.phase }, { on := 1, ground := Ground.phase }, { on := 2, ground := Ground.phase }, { on := 3, ground := Ground.phase }, { on := 4, ground := Ground.phase }, { on := 5, ground := Ground.phase }], guard := none }] _ _
        gi_wp2
        refine HR.out.mono ?_
        rintro e_ W3 (⟨rfl, hJ3, hk3⟩ | ⟨rfl, hJx3⟩)
        · have hbs3 : W3.cell? ⟨Bs, 0, none⟩ = some (.slice (some ⟨b, off, none⟩) m c) := (World.cell?_of_block (a := ⟨Bs, 0, none⟩) hk3.1).trans hbs
          have hbn3 : W3.cell? ⟨Bn, 0, none⟩ = some (.int .i64 (s : Int)) := (World.cell?_of_block (a := ⟨Bn, 0, none⟩) hk3.2).trans hbn
          gi_wp2
          refine ⟨⟨pre ++ [x], k + 1, ?_, HKF.out.2 hlt', ?_, hbs3, hbn3, hJ3⟩, ?_⟩
          · rw [← HI.out]; congr 1; all_goals (rw [Nat.mul_succ]; push_cast; rfl)
          · rw [pcs_snoc, HX.out, HXE.out, chunk_snoc, HI.out]
            show chunk s k g ++ [(g.drop i).take e] = chunk s k g ++ [(g.drop i).take s]
            congr 2
            rw [← HE.out, ← HGM.out, ← List.length_drop, List.take_eq_take_iff]
            omega
          · simp [Go.RowKit.intOf]; omega
        · gi_wp2
          refine bodyPost_ret (results_none rfl _ _ _) rfl ?_
          exact ⟨⟨_, rfl⟩, .inr ⟨pre ++ [x], trivial, hJx3⟩⟩
      · show wpListIn _ _ _ _ _ [{ dst := some 15, op := Op.move (Operand.tmp 4), type := 3, pos := "iter.go:105", after := #[], guard := none }, { dst := some 13, op := Op.load 3 (Operand.tmp 2), type := 3, pos := "iter.go:105", after := #[], guard := none }, { dst := some 14, op := Op.load 47 (Operand.tmp 1), type := 47, pos := "iter.go:105", after := #[], guard := none }, { dst := some 16, op := Op.slice 47 (Operand.tmp 14) (some (Operand.tmp 15)) none none, type := 47, pos := "iter.go:105", after := #[{ on := 1, ground := Ground.data }, { on := 2, ground := Ground.data }], guard := none }, { dst := some 17, op := Op.call { callee := Callee.builtin Builtin.len, args := #[Operand.tmp 16], argTypes := #[47] }, type := 3, pos := "iter.go:105", after := #[{ on := 3, ground := Ground.data }], guard := none }, { dst := some 18, op := Op.call { callee := Callee.builtin Builtin.min, args := #[Operand.tmp 13, Operand.tmp 17], argTypes := #[3, 3] }, type := 3, pos := "iter.go:105", after := #[{ on := 0, ground := Ground.data }, { on := 4, ground := Ground.data }], guard := none }, { dst := some 5, op := Op.assign (Operand.tmp 18), type := 3, pos := "iter.go:105", after := #[{ on := 5, ground := Ground.data }, { on := 0, ground := Ground.phase }, { on := 1, ground := Ground.phase }, { on := 2, ground := Ground.phase }, { on := 3, ground := Ground.phase }, { on := 4, ground := Ground.phase }, { on := 5, ground := Ground.phase }], guard := none }] _ _
        gi_wp2
        refine HR.out.mono ?_
        rintro e_ W3 (⟨rfl, hJ3, hk3⟩ | ⟨rfl, hJx3⟩)
        · have hbs3 : W3.cell? ⟨Bs, 0, none⟩ = some (.slice (some ⟨b, off, none⟩) m c) := (World.cell?_of_block (a := ⟨Bs, 0, none⟩) hk3.1).trans hbs
          have hbn3 : W3.cell? ⟨Bn, 0, none⟩ = some (.int .i64 (s : Int)) := (World.cell?_of_block (a := ⟨Bn, 0, none⟩) hk3.2).trans hbn
          gi_wp2
          refine ⟨⟨pre ++ [x], k + 1, ?_, HKF.out.2 hlt', ?_, hbs3, hbn3, hJ3⟩, ?_⟩
          · rw [← HI.out]; congr 1; all_goals (rw [Nat.mul_succ]; push_cast; rfl)
          · rw [pcs_snoc, HX.out, HXE.out, chunk_snoc, HI.out]
            show chunk s k g ++ [(g.drop i).take e] = chunk s k g ++ [(g.drop i).take s]
            congr 2
            rw [← HE.out, ← HGM.out, ← List.length_drop, List.take_eq_take_iff]
            omega
          · simp [Go.RowKit.intOf]; omega
        · gi_wp2
          refine bodyPost_ret (results_none rfl _ _ _) rfl ?_
          exact ⟨⟨_, rfl⟩, .inr ⟨pre ++ [x], trivial, hJx3⟩⟩
      · show wpListIn _ _ _ _ _ [{ dst := some 15, op := Op.move (Operand.tmp 4), type := 3, pos := "iter.go:105", after := #[], guard := none }, { dst := some 14, op := Op.load 47 (Operand.tmp 1), type := 47, pos := "iter.go:105", after := #[], guard := none }, { dst := some 13, op := Op.load 3 (Operand.tmp 2), type := 3, pos := "iter.go:105", after := #[], guard := none }, { dst := some 16, op := Op.slice 47 (Operand.tmp 14) (some (Operand.tmp 15)) none none, type := 47, pos := "iter.go:105", after := #[{ on := 1, ground := Ground.data }, { on := 2, ground := Ground.data }], guard := none }, { dst := some 17, op := Op.call { callee := Callee.builtin Builtin.len, args := #[Operand.tmp 16], argTypes := #[47] }, type := 3, pos := "iter.go:105", after := #[{ on := 3, ground := Ground.data }], guard := none }, { dst := some 18, op := Op.call { callee := Callee.builtin Builtin.min, args := #[Operand.tmp 13, Operand.tmp 17], argTypes := #[3, 3] }, type := 3, pos := "iter.go:105", after := #[{ on := 0, ground := Ground.data }, { on := 4, ground := Ground.data }], guard := none }, { dst := some 5, op := Op.assign (Operand.tmp 18), type := 3, pos := "iter.go:105", after := #[{ on := 5, ground := Ground.data }, { on := 0, ground := Ground.phase }, { on := 1, ground := Ground.phase }, { on := 2, ground := Ground.phase }, { on := 3, ground := Ground.phase }, { on := 4, ground := Ground.phase }, { on := 5, ground := Ground.phase }], guard := none }] _ _
        gi_wp2
        refine HR.out.mono ?_
        rintro e_ W3 (⟨rfl, hJ3, hk3⟩ | ⟨rfl, hJx3⟩)
        · have hbs3 : W3.cell? ⟨Bs, 0, none⟩ = some (.slice (some ⟨b, off, none⟩) m c) := (World.cell?_of_block (a := ⟨Bs, 0, none⟩) hk3.1).trans hbs
          have hbn3 : W3.cell? ⟨Bn, 0, none⟩ = some (.int .i64 (s : Int)) := (World.cell?_of_block (a := ⟨Bn, 0, none⟩) hk3.2).trans hbn
          gi_wp2
          refine ⟨⟨pre ++ [x], k + 1, ?_, HKF.out.2 hlt', ?_, hbs3, hbn3, hJ3⟩, ?_⟩
          · rw [← HI.out]; congr 1; all_goals (rw [Nat.mul_succ]; push_cast; rfl)
          · rw [pcs_snoc, HX.out, HXE.out, chunk_snoc, HI.out]
            show chunk s k g ++ [(g.drop i).take e] = chunk s k g ++ [(g.drop i).take s]
            congr 2
            rw [← HE.out, ← HGM.out, ← List.length_drop, List.take_eq_take_iff]
            omega
          · simp [Go.RowKit.intOf]; omega
        · gi_wp2
          refine bodyPost_ret (results_none rfl _ _ _) rfl ?_
          exact ⟨⟨_, rfl⟩, .inr ⟨pre ++ [x], trivial, hJx3⟩⟩
      · show wpListIn _ _ _ _ _ [{ dst := some 15, op := Op.move (Operand.tmp 4), type := 3, pos := "iter.go:105", after := #[], guard := none }, { dst := some 14, op := Op.load 47 (Operand.tmp 1), type := 47, pos := "iter.go:105", after := #[], guard := none }, { dst := some 16, op := Op.slice 47 (Operand.tmp 14) (some (Operand.tmp 15)) none none, type := 47, pos := "iter.go:105", after := #[{ on := 1, ground := Ground.data }, { on := 2, ground := Ground.data }], guard := none }, { dst := some 13, op := Op.load 3 (Operand.tmp 2), type := 3, pos := "iter.go:105", after := #[], guard := none }, { dst := some 17, op := Op.call { callee := Callee.builtin Builtin.len, args := #[Operand.tmp 16], argTypes := #[47] }, type := 3, pos := "iter.go:105", after := #[{ on := 3, ground := Ground.data }], guard := none }, { dst := some 18, op := Op.call { callee := Callee.builtin Builtin.min, args := #[Operand.tmp 13, Operand.tmp 17], argTypes := #[3, 3] }, type := 3, pos := "iter.go:105", after := #[{ on := 0, ground := Ground.data }, { on := 4, ground := Ground.data }], guard := none }, { dst := some 5, op := Op.assign (Operand.tmp 18), type := 3, pos := "iter.go:105", after := #[{ on := 5, ground := Ground.data }, { on := 0, ground := Ground.phase }, { on := 1, ground := Ground.phase }, { on := 2, ground := Ground.phase }, { on := 3, ground := Ground.phase }, { on := 4, ground := Ground.phase }, { on := 5, ground := Ground.phase }], guard := none }] _ _
        gi_wp2
        refine HR.out.mono ?_
        rintro e_ W3 (⟨rfl, hJ3, hk3⟩ | ⟨rfl, hJx3⟩)
        · have hbs3 : W3.cell? ⟨Bs, 0, none⟩ = some (.slice (some ⟨b, off, none⟩) m c) := (World.cell?_of_block (a := ⟨Bs, 0, none⟩) hk3.1).trans hbs
          have hbn3 : W3.cell? ⟨Bn, 0, none⟩ = some (.int .i64 (s : Int)) := (World.cell?_of_block (a := ⟨Bn, 0, none⟩) hk3.2).trans hbn
          gi_wp2
          refine ⟨⟨pre ++ [x], k + 1, ?_, HKF.out.2 hlt', ?_, hbs3, hbn3, hJ3⟩, ?_⟩
          · rw [← HI.out]; congr 1; all_goals (rw [Nat.mul_succ]; push_cast; rfl)
          · rw [pcs_snoc, HX.out, HXE.out, chunk_snoc, HI.out]
            show chunk s k g ++ [(g.drop i).take e] = chunk s k g ++ [(g.drop i).take s]
            congr 2
            rw [← HE.out, ← HGM.out, ← List.length_drop, List.take_eq_take_iff]
            omega
          · simp [Go.RowKit.intOf]; omega
        · gi_wp2
          refine bodyPost_ret (results_none rfl _ _ _) rfl ?_
          exact ⟨⟨_, rfl⟩, .inr ⟨pre ++ [x], trivial, hJx3⟩⟩
      · show wpListIn _ _ _ _ _ [{ dst := some 15, op := Op.move (Operand.tmp 4), type := 3, pos := "iter.go:105", after := #[], guard := none }, { dst := some 14, op := Op.load 47 (Operand.tmp 1), type := 47, pos := "iter.go:105", after := #[], guard := none }, { dst := some 16, op := Op.slice 47 (Operand.tmp 14) (some (Operand.tmp 15)) none none, type := 47, pos := "iter.go:105", after := #[{ on := 1, ground := Ground.data }, { on := 2, ground := Ground.data }], guard := none }, { dst := some 17, op := Op.call { callee := Callee.builtin Builtin.len, args := #[Operand.tmp 16], argTypes := #[47] }, type := 3, pos := "iter.go:105", after := #[{ on := 3, ground := Ground.data }], guard := none }, { dst := some 13, op := Op.load 3 (Operand.tmp 2), type := 3, pos := "iter.go:105", after := #[], guard := none }, { dst := some 18, op := Op.call { callee := Callee.builtin Builtin.min, args := #[Operand.tmp 13, Operand.tmp 17], argTypes := #[3, 3] }, type := 3, pos := "iter.go:105", after := #[{ on := 0, ground := Ground.data }, { on := 4, ground := Ground.data }], guard := none }, { dst := some 5, op := Op.assign (Operand.tmp 18), type := 3, pos := "iter.go:105", after := #[{ on := 5, ground := Ground.data }, { on := 0, ground := Ground.phase }, { on := 1, ground := Ground.phase }, { on := 2, ground := Ground.phase }, { on := 3, ground := Ground.phase }, { on := 4, ground := Ground.phase }, { on := 5, ground := Ground.phase }], guard := none }] _ _
        gi_wp2
        refine HR.out.mono ?_
        rintro e_ W3 (⟨rfl, hJ3, hk3⟩ | ⟨rfl, hJx3⟩)
        · have hbs3 : W3.cell? ⟨Bs, 0, none⟩ = some (.slice (some ⟨b, off, none⟩) m c) := (World.cell?_of_block (a := ⟨Bs, 0, none⟩) hk3.1).trans hbs
          have hbn3 : W3.cell? ⟨Bn, 0, none⟩ = some (.int .i64 (s : Int)) := (World.cell?_of_block (a := ⟨Bn, 0, none⟩) hk3.2).trans hbn
          gi_wp2
          refine ⟨⟨pre ++ [x], k + 1, ?_, HKF.out.2 hlt', ?_, hbs3, hbn3, hJ3⟩, ?_⟩
          · rw [← HI.out]; congr 1; all_goals (rw [Nat.mul_succ]; push_cast; rfl)
          · rw [pcs_snoc, HX.out, HXE.out, chunk_snoc, HI.out]
            show chunk s k g ++ [(g.drop i).take e] = chunk s k g ++ [(g.drop i).take s]
            congr 2
            rw [← HE.out, ← HGM.out, ← List.length_drop, List.take_eq_take_iff]
            omega
          · simp [Go.RowKit.intOf]; omega
        · gi_wp2
          refine bodyPost_ret (results_none rfl _ _ _) rfl ?_
          exact ⟨⟨_, rfl⟩, .inr ⟨pre ++ [x], trivial, hJx3⟩⟩
    · have hkk : k = fullN s m := by
        have := HKF.out
        have := HK.out
        omega
      subst hkk
      gi_wp2
      go_end0
      exact ⟨⟨_, rfl⟩, .inl ⟨pre, HX.out, hJs⟩⟩
/-- the iterator's contract -/
theorem chunk_stops (n : Nat) (hn : 1 ≤ n) (Bs Bn : Nat) (w0 : World) (A : Option Addr) (c m s : Nat) (g : List Int) (hg : Ints w0 (.slice A m c) g) (hgm : g.length = m) (hm : m ≤ 1000) (hs1 : 1 ≤ s) (hs2 : s ≤ 64) (w : World) (hBs : w.cell? ⟨Bs, 0, none⟩ = some (.slice A m c)) (hBn : w.cell? ⟨Bn, 0, none⟩ = some (.int .i64 (s : Int))) (h2 : Bs < w.heap.size ∧ Bn < w.heap.size) :
    SeqStopsK Fence.wide n Tryz.prog 150 #[.pointer (some ⟨Bs, 0, none⟩), .pointer (some ⟨Bn, 0, none⟩)] (fun x : Pc w0 => #[hdV x.1.1]) (KpB Bs Bn) (fun ys => pcs ys = chunk s (fullN s m) g) (fun _ => True) (fullN s m) w := fun l J Jx W hW hJ _ hY h0 =>
  chunk_in n hn l Bs Bn w0 A c m s g hg hgm hm hs1 hs2 J Jx (fun pre W h => hJ pre W W.drew none h ⟨rfl, rfl, rfl, Nat.le_refl _, fun _ _ _ => rfl⟩ (fun r e => by cases e)) hY W ((hW.cell (p := ⟨Bs, 0, none⟩) h2.1).trans hBs) ((hW.cell (p := ⟨Bn, 0, none⟩) h2.2).trans hBn) h0
end Go.Proofs.YtdmbcjckgfjcaaaGreatDoor
