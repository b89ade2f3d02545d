/- Layer state: fill. Written by tools/genstatef.py. -/
import Derived.Maps.AppendAt
import Derived.Test.YtdmbcjckgfjcaaaGreatDoorRbi
import Derived.Test.YtdmbcjckgfjcaaaGreatDoorRbs
namespace Go.Proofs.YtdmbcjckgfjcaaaGreatDoor
open Go.RowKit Go.Shelf Go.Proofs Go.Joins
attribute [local go_sem] Oper.semAt_some
theorem wpListIn_make_full {F : Fence} {n : Nat} {P : Program} (w : World) {ops : Array Oper} {rest : List Oper} {o : Oper} {a : Act} {Q : Exit → Act → World → Prop}
    (hg : o.guard = none) (l c : Operand) (t : TypeId) (hop : o.op = Op.makeSlice t l c)
    (base : Nat) (e : TypeId) (i : TypeInfo) (z : Value) (size : Nat) (h1 : P.underlying t = some (.slice e)) (h2 : P.info? e = some i) (h3 : i.zero = some z) (h4 : i.size = size)
    (kl kc : IntKind) (L C : Int) (m : Nat) (hl : a.eval l = .int kl L) (hc : a.eval c = .int kc C) (hL : L = (m : Int)) (hC : C = (m : Int)) (b2 : i.bytes * m ≤ 281474976710656) (b3 : m ≤ maxLen) (b4 : base ≤ w.heap.size)
    (hK : ∀ w', w'.ownsRow base e size (.slice (some ⟨w.heap.size, 0, none⟩) m m) m (madeCells z.cells (m * size)).toList → w.grownBy w' none → wpListIn F n P ops Q rest (a.put o.dst (.slice (some ⟨w.heap.size, 0, none⟩) m m)) w') :
    wpListIn F n P ops Q (o :: rest) a w := by
  refine wpListIn_plain hg fun K hK' => ?_
  obtain ⟨w', hrun, r1, r2⟩ := run_make_full (P := P) w base t e i z size h1 h2 h3 h4 kl kc m b2 b3 b4
  subst hL
  subst hC
  unfold Oper.wpIn
  refine ⟨?_, ?_⟩
  · simp [Oper.about, hop]
  · rw [Oper.semAt_plain F _ _ (by rw [hop]; intro c hc'; cases hc')]
    simp [execOp, hop, hl, hc, hrun, Result.andThen]
    exact hK' _ _ (hK w' r1 r2)
theorem Chunk_any (A : Option Addr) (m c : Nat) (s : Nat) (hs : 1 ≤ s) (hs2 : s ≤ 64) (w : World) :
    Calls Tryz.prog 108 #[.slice A m c, .int .i64 (s : Int)] w fun e w' => e = .returned (.func (.func 150) #[] #[.pointer (some ⟨w.heap.size, 0, none⟩), .pointer (some ⟨w.heap.size + 1, 0, none⟩)]) ∧ w' = (w.alloc (.cells #[.slice A m c] 47)).alloc (.cells #[.int .i64 (s : Int)] 3) := by
  have h1 : ¬ ((s : Int) < 1) := by omega
  go_enter Tryz.func108, Tryz.ntmps108
  go_wp2
  go_ret
  exact ⟨rfl, rfl⟩
theorem four_box (w : World) (a b c d : List Value) (s t u v : TypeId) {X : World} (h : (((w.alloc (.cells a.toArray s)).alloc (.cells b.toArray t)).alloc (.cells c.toArray u)).alloc (.cells d.toArray v) = X) :
    Bc s X w.heap.size a ∧ Bc t X (w.heap.size + 1) b ∧ Bc u X (w.heap.size + 2) c ∧ Bc v X (w.heap.size + 3) d ∧ Below w.heap.size w X := by
  obtain ⟨w1, e1, k1, k2, hb1, hs1⟩ := two_box w a b s t
  obtain ⟨w2, e2, k3, k4, hb2, hs2⟩ := two_box w1 c d u v
  rw [e1, e2] at h
  subst h
  rw [hs1] at k3 k4
  exact ⟨k1.below hb2, k2.below hb2, k3, k4, bcall hb1 hb2⟩
set_option maxRecDepth 100000 in
set_option maxHeartbeats 8000000 in
theorem fill_in (nb k : Nat) (A : Option Addr) (m c : Nat) (g : List Int) (hk : 1 ≤ k) (hk2 : k ≤ 64) (hnb : nb ≤ 1000) (w : World) (hg : Ints w (.slice A m c) g) (hgm : g.length = m) (hm : m ≤ 1000) (hf : fullN k m ≤ nb) :
    CallsIn Fence.wide 8 Tryz.prog 53 #[.int .i64 (nb : Int), .int .i64 (k : Int), .slice A m c] w fun e W' => ∃ v : Hd, e = .returned (.tuple #[hdV v, .int .i64 (fullN k m : Int)]) ∧ OwnRows 47 3 w.heap.size W' (hdV v) ([] :: chunk k nb g) ∧ Below w.heap.size w W' := by
  obtain ⟨i0, hi, hz0, hz1, hz2⟩ := info_parts infoRow
  have HG := Go.Lib.hid hg
  have HGM := Go.Lib.hid hgm
  have HF := Go.Lib.hid hf
  clear hg hgm hf
  refine callsIn_of_wp_marks Tryz.func53 rfl trivial ?_ rfl
  simp only [Tryz.ntmps53, List.size_toArray, List.length_cons, List.length_nil, Nat.reduceAdd, Nat.reduceSub, Array.replicate_succ, Array.replicate_zero, List.push_toArray, List.append_toArray, List.nil_append, List.cons_append]
  gi_wp2_with (first
    | (gi_at_make; refine wpListIn_make_full _ rfl _ _ _ rfl w.heap.size 47 i0 (.slice none 0 0) 1 Tryz.underlying22 hi hz0 hz1 .i64 .i64 _ _ (nb + 1) rfl rfl (by simp) (by simp) (by rw [hz2]; omega) (by unfold maxLen; omega) (Nat.le_refl _) ?_; intro w1 hown hgr))
  refine ⟨trivial, ?_⟩
  refine (callsIn_wide.2 (Chunk_any A m c k hk hk2 _)).mono ?_
  rintro e w' ⟨rfl, rfl⟩
  gi_wp2
  have hGs := (hown.lt w.heap.size rfl).2
  obtain ⟨X, hX⟩ : ∃ X, (((w1.alloc (.cells #[.slice (some ⟨w.heap.size, 0, none⟩) (nb + 1) (nb + 1)] 22)).alloc (.cells #[.int .i64 0] 3)).alloc (.cells #[.slice A m c] 47)).alloc (.cells #[.int .i64 (k : Int)] 3) = X := ⟨_, rfl⟩
  have hXs : X.heap.size = w1.heap.size + 4 := by rw [← hX]; simp
  have hb1 : Below w.heap.size w w1 := ⟨hgr.os, hgr.tape, hgr.output, hgr.size, fun k hk => hgr.block k hk (by simp)⟩
  obtain ⟨x8, x9, xs, xn, hbX⟩ := four_box w1 [.slice (some ⟨w.heap.size, 0, none⟩) (nb + 1) (nb + 1)] [.int .i64 0] [.slice A m c] [.int .i64 (k : Int)] 22 3 47 3 hX
  have hI0 : FillI w w.heap.size w1.heap.size (w1.heap.size + 1) nb X.heap.size [] X := ⟨⟨Nat.le_refl _, by have := hb1.size; omega, by have := hb1.size; omega⟩, ⟨by omega, by omega, by omega⟩, ⟨by omega, by omega, by omega⟩, Nat.le_refl _, x8, x9,
    ⟨List.replicate (nb + 1) (.slice none 0 0), List.length_replicate, own_below (by rw [← made_rep one_len (by decide) (.slice none 0 0 : Value) #[.slice none 0 0] rfl]; exact hown) hbX, fun i u _ hu => by rw [List.getElem?_replicate] at hu; split at hu <;> cases hu; rfl, by rw [List.getElem?_replicate, if_pos (by omega)], fun i u l _ hl => by simp at hl⟩, hb1.trans (hbX.mono hb1.size)⟩
  rw [hX]
  clear hX x8 x9 hbX hown hgr
  have hwX : w.heap.size ≤ X.heap.size := by have := hb1.size; omega
  refine wpIn_rangeFunc_ownG rfl (by decide) (gf := 150) (lb := #[.pointer (some ⟨w1.heap.size + 1 + 1, 0, none⟩), .pointer (some ⟨w1.heap.size + 1 + 1 + 1, 0, none⟩)]) rfl trivial (enters_of Tryz.func150 (by kernel_rfl) rfl)
    (chunk_stops (8 - 1) (by decide) (w1.heap.size + 1 + 1) (w1.heap.size + 1 + 1 + 1) w A c m k g HG.out HGM.out hm hk hk2 X (xs.cell 0) (xn.cell 0) ⟨by omega, by omega⟩)
    KpB.trans (fun W l o o' hl _ _ _ => KpB.put (n := X.heap.size) (by omega) (by omega) W l o' hl) (Below.refl _ _) (fun _ => rfl)
    (fun pre W => FillI w w.heap.size w1.heap.size (w1.heap.size + 1) nb X.heap.size (pcs pre) W)
    (fun _ _ _ => False)
    (FillI.own hwX (f := pcs))
    (fun _ _ _ _ _ hs _ _ => hs)
    hI0
    (fun x => { tmps := #[.int .i64 (nb : Int), .int .i64 (k : Int), .slice A m c, undef, undef, undef, .slice none 0 0, .int .i64 0, .pointer (some ⟨w1.heap.size, 0, none⟩), .pointer (some ⟨w1.heap.size + 1, 0, none⟩), hdV x.1.1, .int .i64 (nb : Int), .int .i64 ((nb : Int) + 1), .slice (some ⟨w.heap.size, 0, none⟩) (nb + 1) (nb + 1), .slice A m c, .int .i64 (k : Int),
      .func (.func 150) #[] #[.pointer (some ⟨w1.heap.size + 1 + 1, 0, none⟩), .pointer (some ⟨w1.heap.size + 1 + 1 + 1, 0, none⟩)], hdV x.1.1, undef, undef, undef, undef, undef, undef, undef, undef, undef], defers := [] }) ?assign ?body ?done ?stop
  case assign =>
    intro l x W K hK
    gi_wp2
    exact hK
  case body =>
    rintro l pre x W hI hlt
    have hp : (pcs pre).length < nb := by rw [pcs_len]; have := HF.out; omega
    have hsnoc := pcs_snoc pre x
    obtain ⟨L, hL⟩ : ∃ L, pcs pre = L := ⟨_, rfl⟩
    rw [hL] at hI hp hsnoc
    have c9 : W.cell? ⟨w1.heap.size + 1, 0, none⟩ = some (.int .i64 (L.length : Int)) := hI.c9.cell 0
    have f9 := hI.c9.free 0
    have HS := Go.Lib.hid hsnoc
    have HP := Go.Lib.hid hp
    have hp3 : (L.length : Int) ≤ 1000 := by omega
    have HYY := Go.Lib.hid hI.y
    have HI := Go.Lib.hid hI
    obtain ⟨⟨xh, xl⟩, hx1, hx2⟩ := x
    have HX := Go.Lib.hid (show Ints w (hdV xh) xl from hx1)
    have HXL := Go.Lib.hid (show xl.length * 8 ≤ 140737488351232 by have : xl.length ≤ 64 := hx2; omega)
    dsimp only
    clear hI hL hsnoc hlt hI0
    gi_wp2
    obtain ⟨Y, hY⟩ : ∃ Y, (W.setCell ⟨w1.heap.size + 1, 0, none⟩ (.int .i64 ((L.length : Int) + 1))).drew = Y := ⟨_, rfl⟩
    rw [hY] at HYY
    have y8 : Y.cell? ⟨w1.heap.size, 0, none⟩ = some (.slice (some ⟨w.heap.size, 0, none⟩) (nb + 1) (nb + 1)) := HYY.out.c8.cell 0
    have y9 : Y.cell? ⟨w1.heap.size + 1, 0, none⟩ = some (.int .i64 ((L.length : Int) + 1)) := HYY.out.c9.cell 0
    have HXY := Go.Lib.hid (HX.out.below (HI.out.bw.trans (HYY.out.bw.mono (by have := hb1.size; omega))))
    clear c9 f9
    refine wpIn_region_orders (L := [[0, 1, 2, 3, 4, 5], [0, 2, 1, 3, 4, 5], [0, 2, 3, 1, 4, 5], [1, 0, 2, 3, 4, 5], [1, 2, 0, 3, 4, 5], [1, 2, 3, 0, 4, 5], [2, 0, 1, 3, 4, 5], [2, 0, 3, 1, 4, 5], [2, 1, 0, 3, 4, 5], [2, 1, 3, 0, 4, 5], [2, 3, 0, 1, 4, 5], [2, 3, 1, 0, 4, 5]]) (by kernel_rfl) (by kernel_rfl) ?_
    intro o ho
    rw [hY]
    clear hY
    simp only [List.mem_cons, List.not_mem_nil, or_false] at ho
    rcases ho with rfl | rfl | rfl | rfl | rfl | rfl | rfl | rfl | rfl | rfl | rfl | rfl
    · show wpListIn _ _ _ _ _ [{ dst := some 20, op := Op.load 22 (Operand.tmp 8), type := 22, pos := "new.go:44", after := #[], guard := none }, { dst := some 21, op := Op.load 3 (Operand.tmp 9), type := 3, pos := "new.go:44", after := #[], guard := none }, { dst := some 22, op := Op.move (Operand.tmp 10), type := 47, pos := "new.go:44", after := #[], guard := none }, { dst := some 23, op := Op.call { callee := Callee.value (Operand.func 84), args := #[Operand.tmp 22], argTypes := #[47] }, type := 47, pos := "new.go:44", after := #[{ on := 2, ground := Ground.data }], guard := none }, { dst := some 24, op := Op.indexAddr 22 (Operand.tmp 20) (Operand.tmp 21), type := 0, pos := "new.go:44", after := #[{ on := 0, ground := Ground.data }, { on := 1, ground := Ground.data }, { on := 0, ground := Ground.phase }, { on := 1, ground := Ground.phase }, { on := 2, ground := Ground.phase }, { on := 3, ground := Ground.phase }], guard := none }, { dst := none, op := Op.store 47 (Operand.tmp 24) (Operand.tmp 23), type := 0, pos := "new.go:44", after := #[{ on := 4, ground := Ground.data }, { on := 3, ground := Ground.data }, { on := 3, ground := Ground.chain }, { on := 0, ground := Ground.phase }, { on := 1, ground := Ground.phase }, { on := 2, ground := Ground.phase }, { on := 3, ground := Ground.phase }], guard := none }] _ _
      gi_wp2_with (refine ⟨trivial, ?_⟩; gi_at_call 84; refine (CallsIn.inRound l (callsIn_wide.2 (Clone_ints _ xl _ HXY.out HXL.out))).mono ?_; rintro e w4 ⟨v', rfl, ho4, hb4⟩; obtain ⟨u, rfl, -⟩ := hd_of (Sl.of_own ic_len ho4); obtain ⟨z8, z9, ⟨zv, zc⟩, zf, hfin⟩ := HYY.out.next HP.out hb4 ho4; have HFIN := Go.Lib.hid hfin; clear hfin ho4 hb4)
      obtain ⟨q1, q2, q3, q4⟩ := HFIN.out
      exact ⟨q2.from _, ⟨q4 _ (by have := HI.out.le; omega) (by have := hb1.size; omega) (by omega), q4 _ (by have := HI.out.le; omega) (by have := hb1.size; omega) (by omega)⟩, by have h := q1; rw [← HS.out] at h; exact h⟩
    · show wpListIn _ _ _ _ _ [{ dst := some 20, op := Op.load 22 (Operand.tmp 8), type := 22, pos := "new.go:44", after := #[], guard := none }, { dst := some 22, op := Op.move (Operand.tmp 10), type := 47, pos := "new.go:44", after := #[], guard := none }, { dst := some 21, op := Op.load 3 (Operand.tmp 9), type := 3, pos := "new.go:44", after := #[], guard := none }, { dst := some 23, op := Op.call { callee := Callee.value (Operand.func 84), args := #[Operand.tmp 22], argTypes := #[47] }, type := 47, pos := "new.go:44", after := #[{ on := 2, ground := Ground.data }], guard := none }, { dst := some 24, op := Op.indexAddr 22 (Operand.tmp 20) (Operand.tmp 21), type := 0, pos := "new.go:44", after := #[{ on := 0, ground := Ground.data }, { on := 1, ground := Ground.data }, { on := 0, ground := Ground.phase }, { on := 1, ground := Ground.phase }, { on := 2, ground := Ground.phase }, { on := 3, ground := Ground.phase }], guard := none }, { dst := none, op := Op.store 47 (Operand.tmp 24) (Operand.tmp 23), type := 0, pos := "new.go:44", after := #[{ on := 4, ground := Ground.data }, { on := 3, ground := Ground.data }, { on := 3, ground := Ground.chain }, { on := 0, ground := Ground.phase }, { on := 1, ground := Ground.phase }, { on := 2, ground := Ground.phase }, { on := 3, ground := Ground.phase }], guard := none }] _ _
      gi_wp2_with (refine ⟨trivial, ?_⟩; gi_at_call 84; refine (CallsIn.inRound l (callsIn_wide.2 (Clone_ints _ xl _ HXY.out HXL.out))).mono ?_; rintro e w4 ⟨v', rfl, ho4, hb4⟩; obtain ⟨u, rfl, -⟩ := hd_of (Sl.of_own ic_len ho4); obtain ⟨z8, z9, ⟨zv, zc⟩, zf, hfin⟩ := HYY.out.next HP.out hb4 ho4; have HFIN := Go.Lib.hid hfin; clear hfin ho4 hb4)
      obtain ⟨q1, q2, q3, q4⟩ := HFIN.out
      exact ⟨q2.from _, ⟨q4 _ (by have := HI.out.le; omega) (by have := hb1.size; omega) (by omega), q4 _ (by have := HI.out.le; omega) (by have := hb1.size; omega) (by omega)⟩, by have h := q1; rw [← HS.out] at h; exact h⟩
    · show wpListIn _ _ _ _ _ [{ dst := some 20, op := Op.load 22 (Operand.tmp 8), type := 22, pos := "new.go:44", after := #[], guard := none }, { dst := some 22, op := Op.move (Operand.tmp 10), type := 47, pos := "new.go:44", after := #[], guard := none }, { dst := some 23, op := Op.call { callee := Callee.value (Operand.func 84), args := #[Operand.tmp 22], argTypes := #[47] }, type := 47, pos := "new.go:44", after := #[{ on := 2, ground := Ground.data }], guard := none }, { dst := some 21, op := Op.load 3 (Operand.tmp 9), type := 3, pos := "new.go:44", after := #[], guard := none }, { dst := some 24, op := Op.indexAddr 22 (Operand.tmp 20) (Operand.tmp 21), type := 0, pos := "new.go:44", after := #[{ on := 0, ground := Ground.data }, { on := 1, ground := Ground.data }, { on := 0, ground := Ground.phase }, { on := 1, ground := Ground.phase }, { on := 2, ground := Ground.phase }, { on := 3, ground := Ground.phase }], guard := none }, { dst := none, op := Op.store 47 (Operand.tmp 24) (Operand.tmp 23), type := 0, pos := "new.go:44", after := #[{ on := 4, ground := Ground.data }, { on := 3, ground := Ground.data }, { on := 3, ground := Ground.chain }, { on := 0, ground := Ground.phase }, { on := 1, ground := Ground.phase }, { on := 2, ground := Ground.phase }, { on := 3, ground := Ground.phase }], guard := none }] _ _
      gi_wp2_with (refine ⟨trivial, ?_⟩; gi_at_call 84; refine (CallsIn.inRound l (callsIn_wide.2 (Clone_ints _ xl _ HXY.out HXL.out))).mono ?_; rintro e w4 ⟨v', rfl, ho4, hb4⟩; obtain ⟨u, rfl, -⟩ := hd_of (Sl.of_own ic_len ho4); obtain ⟨z8, z9, ⟨zv, zc⟩, zf, hfin⟩ := HYY.out.next HP.out hb4 ho4; have HFIN := Go.Lib.hid hfin; clear hfin ho4 hb4)
      obtain ⟨q1, q2, q3, q4⟩ := HFIN.out
      exact ⟨q2.from _, ⟨q4 _ (by have := HI.out.le; omega) (by have := hb1.size; omega) (by omega), q4 _ (by have := HI.out.le; omega) (by have := hb1.size; omega) (by omega)⟩, by have h := q1; rw [← HS.out] at h; exact h⟩
    · show wpListIn _ _ _ _ _ [{ dst := some 21, op := Op.load 3 (Operand.tmp 9), type := 3, pos := "new.go:44", after := #[], guard := none }, { dst := some 20, op := Op.load 22 (Operand.tmp 8), type := 22, pos := "new.go:44", after := #[], guard := none }, { dst := some 22, op := Op.move (Operand.tmp 10), type := 47, pos := "new.go:44", after := #[], guard := none }, { dst := some 23, op := Op.call { callee := Callee.value (Operand.func 84), args := #[Operand.tmp 22], argTypes := #[47] }, type := 47, pos := "new.go:44", after := #[{ on := 2, ground := Ground.data }], guard := none }, { dst := some 24, op := Op.indexAddr 22 (Operand.tmp 20) (Operand.tmp 21), type := 0, pos := "new.go:44", after := #[{ on := 0, ground := Ground.data }, { on := 1, ground := Ground.data }, { on := 0, ground := Ground.phase }, { on := 1, ground := Ground.phase }, { on := 2, ground := Ground.phase }, { on := 3, ground := Ground.phase }], guard := none }, { dst := none, op := Op.store 47 (Operand.tmp 24) (Operand.tmp 23), type := 0, pos := "new.go:44", after := #[{ on := 4, ground := Ground.data }, { on := 3, ground := Ground.data }, { on := 3, ground := Ground.chain }, { on := 0, ground := Ground.phase }, { on := 1, ground := Ground.phase }, { on := 2, ground := Ground.phase }, { on := 3, ground := Ground.phase }], guard := none }] _ _
      gi_wp2_with (refine ⟨trivial, ?_⟩; gi_at_call 84; refine (CallsIn.inRound l (callsIn_wide.2 (Clone_ints _ xl _ HXY.out HXL.out))).mono ?_; rintro e w4 ⟨v', rfl, ho4, hb4⟩; obtain ⟨u, rfl, -⟩ := hd_of (Sl.of_own ic_len ho4); obtain ⟨z8, z9, ⟨zv, zc⟩, zf, hfin⟩ := HYY.out.next HP.out hb4 ho4; have HFIN := Go.Lib.hid hfin; clear hfin ho4 hb4)
      obtain ⟨q1, q2, q3, q4⟩ := HFIN.out
      exact ⟨q2.from _, ⟨q4 _ (by have := HI.out.le; omega) (by have := hb1.size; omega) (by omega), q4 _ (by have := HI.out.le; omega) (by have := hb1.size; omega) (by omega)⟩, by have h := q1; rw [← HS.out] at h; exact h⟩
    · show wpListIn _ _ _ _ _ [{ dst := some 21, op := Op.load 3 (Operand.tmp 9), type := 3, pos := "new.go:44", after := #[], guard := none }, { dst := some 22, op := Op.move (Operand.tmp 10), type := 47, pos := "new.go:44", after := #[], guard := none }, { dst := some 20, op := Op.load 22 (Operand.tmp 8), type := 22, pos := "new.go:44", after := #[], guard := none }, { dst := some 23, op := Op.call { callee := Callee.value (Operand.func 84), args := #[Operand.tmp 22], argTypes := #[47] }, type := 47, pos := "new.go:44", after := #[{ on := 2, ground := Ground.data }], guard := none }, { dst := some 24, op := Op.indexAddr 22 (Operand.tmp 20) (Operand.tmp 21), type := 0, pos := "new.go:44", after := #[{ on := 0, ground := Ground.data }, { on := 1, ground := Ground.data }, { on := 0, ground := Ground.phase }, { on := 1, ground := Ground.phase }, { on := 2, ground := Ground.phase }, { on := 3, ground := Ground.phase }], guard := none }, { dst := none, op := Op.store 47 (Operand.tmp 24) (Operand.tmp 23), type := 0, pos := "new.go:44", after := #[{ on := 4, ground := Ground.data }, { on := 3, ground := Ground.data }, { on := 3, ground := Ground.chain }, { on := 0, ground := Ground.phase }, { on := 1, ground := Ground.phase }, { on := 2, ground := Ground.phase }, { on := 3, ground := Ground.phase }], guard := none }] _ _
      gi_wp2_with (refine ⟨trivial, ?_⟩; gi_at_call 84; refine (CallsIn.inRound l (callsIn_wide.2 (Clone_ints _ xl _ HXY.out HXL.out))).mono ?_; rintro e w4 ⟨v', rfl, ho4, hb4⟩; obtain ⟨u, rfl, -⟩ := hd_of (Sl.of_own ic_len ho4); obtain ⟨z8, z9, ⟨zv, zc⟩, zf, hfin⟩ := HYY.out.next HP.out hb4 ho4; have HFIN := Go.Lib.hid hfin; clear hfin ho4 hb4)
      obtain ⟨q1, q2, q3, q4⟩ := HFIN.out
      exact ⟨q2.from _, ⟨q4 _ (by have := HI.out.le; omega) (by have := hb1.size; omega) (by omega), q4 _ (by have := HI.out.le; omega) (by have := hb1.size; omega) (by omega)⟩, by have h := q1; rw [← HS.out] at h; exact h⟩
    · show wpListIn _ _ _ _ _ [{ dst := some 21, op := Op.load 3 (Operand.tmp 9), type := 3, pos := "new.go:44", after := #[], guard := none }, { dst := some 22, op := Op.move (Operand.tmp 10), type := 47, pos := "new.go:44", after := #[], guard := none }, { dst := some 23, op := Op.call { callee := Callee.value (Operand.func 84), args := #[Operand.tmp 22], argTypes := #[47] }, type := 47, pos := "new.go:44", after := #[{ on := 2, ground := Ground.data }], guard := none }, { dst := some 20, op := Op.load 22 (Operand.tmp 8), type := 22, pos := "new.go:44", after := #[], guard := none }, { dst := some 24, op := Op.indexAddr 22 (Operand.tmp 20) (Operand.tmp 21), type := 0, pos := "new.go:44", after := #[{ on := 0, ground := Ground.data }, { on := 1, ground := Ground.data }, { on := 0, ground := Ground.phase }, { on := 1, ground := Ground.phase }, { on := 2, ground := Ground.phase }, { on := 3, ground := Ground.phase }], guard := none }, { dst := none, op := Op.store 47 (Operand.tmp 24) (Operand.tmp 23), type := 0, pos := "new.go:44", after := #[{ on := 4, ground := Ground.data }, { on := 3, ground := Ground.data }, { on := 3, ground := Ground.chain }, { on := 0, ground := Ground.phase }, { on := 1, ground := Ground.phase }, { on := 2, ground := Ground.phase }, { on := 3, ground := Ground.phase }], guard := none }] _ _
      gi_wp2_with (refine ⟨trivial, ?_⟩; gi_at_call 84; refine (CallsIn.inRound l (callsIn_wide.2 (Clone_ints _ xl _ HXY.out HXL.out))).mono ?_; rintro e w4 ⟨v', rfl, ho4, hb4⟩; obtain ⟨u, rfl, -⟩ := hd_of (Sl.of_own ic_len ho4); obtain ⟨z8, z9, ⟨zv, zc⟩, zf, hfin⟩ := HYY.out.next HP.out hb4 ho4; have HFIN := Go.Lib.hid hfin; clear hfin ho4 hb4)
      obtain ⟨q1, q2, q3, q4⟩ := HFIN.out
      exact ⟨q2.from _, ⟨q4 _ (by have := HI.out.le; omega) (by have := hb1.size; omega) (by omega), q4 _ (by have := HI.out.le; omega) (by have := hb1.size; omega) (by omega)⟩, by have h := q1; rw [← HS.out] at h; exact h⟩
    · show wpListIn _ _ _ _ _ [{ dst := some 22, op := Op.move (Operand.tmp 10), type := 47, pos := "new.go:44", after := #[], guard := none }, { dst := some 20, op := Op.load 22 (Operand.tmp 8), type := 22, pos := "new.go:44", after := #[], guard := none }, { dst := some 21, op := Op.load 3 (Operand.tmp 9), type := 3, pos := "new.go:44", after := #[], guard := none }, { dst := some 23, op := Op.call { callee := Callee.value (Operand.func 84), args := #[Operand.tmp 22], argTypes := #[47] }, type := 47, pos := "new.go:44", after := #[{ on := 2, ground := Ground.data }], guard := none }, { dst := some 24, op := Op.indexAddr 22 (Operand.tmp 20) (Operand.tmp 21), type := 0, pos := "new.go:44", after := #[{ on := 0, ground := Ground.data }, { on := 1, ground := Ground.data }, { on := 0, ground := Ground.phase }, { on := 1, ground := Ground.phase }, { on := 2, ground := Ground.phase }, { on := 3, ground := Ground.phase }], guard := none }, { dst := none, op := Op.store 47 (Operand.tmp 24) (Operand.tmp 23), type := 0, pos := "new.go:44", after := #[{ on := 4, ground := Ground.data }, { on := 3, ground := Ground.data }, { on := 3, ground := Ground.chain }, { on := 0, ground := Ground.phase }, { on := 1, ground := Ground.phase }, { on := 2, ground := Ground.phase }, { on := 3, ground := Ground.phase }], guard := none }] _ _
      gi_wp2_with (refine ⟨trivial, ?_⟩; gi_at_call 84; refine (CallsIn.inRound l (callsIn_wide.2 (Clone_ints _ xl _ HXY.out HXL.out))).mono ?_; rintro e w4 ⟨v', rfl, ho4, hb4⟩; obtain ⟨u, rfl, -⟩ := hd_of (Sl.of_own ic_len ho4); obtain ⟨z8, z9, ⟨zv, zc⟩, zf, hfin⟩ := HYY.out.next HP.out hb4 ho4; have HFIN := Go.Lib.hid hfin; clear hfin ho4 hb4)
      obtain ⟨q1, q2, q3, q4⟩ := HFIN.out
      exact ⟨q2.from _, ⟨q4 _ (by have := HI.out.le; omega) (by have := hb1.size; omega) (by omega), q4 _ (by have := HI.out.le; omega) (by have := hb1.size; omega) (by omega)⟩, by have h := q1; rw [← HS.out] at h; exact h⟩
    · show wpListIn _ _ _ _ _ [{ dst := some 22, op := Op.move (Operand.tmp 10), type := 47, pos := "new.go:44", after := #[], guard := none }, { dst := some 20, op := Op.load 22 (Operand.tmp 8), type := 22, pos := "new.go:44", after := #[], guard := none }, { dst := some 23, op := Op.call { callee := Callee.value (Operand.func 84), args := #[Operand.tmp 22], argTypes := #[47] }, type := 47, pos := "new.go:44", after := #[{ on := 2, ground := Ground.data }], guard := none }, { dst := some 21, op := Op.load 3 (Operand.tmp 9), type := 3, pos := "new.go:44", after := #[], guard := none }, { dst := some 24, op := Op.indexAddr 22 (Operand.tmp 20) (Operand.tmp 21), type := 0, pos := "new.go:44", after := #[{ on := 0, ground := Ground.data }, { on := 1, ground := Ground.data }, { on := 0, ground := Ground.phase }, { on := 1, ground := Ground.phase }, { on := 2, ground := Ground.phase }, { on := 3, ground := Ground.phase }], guard := none }, { dst := none, op := Op.store 47 (Operand.tmp 24) (Operand.tmp 23), type := 0, pos := "new.go:44", after := #[{ on := 4, ground := Ground.data }, { on := 3, ground := Ground.data }, { on := 3, ground := Ground.chain }, { on := 0, ground := Ground.phase }, { on := 1, ground := Ground.phase }, { on := 2, ground := Ground.phase }, { on := 3, ground := Ground.phase }], guard := none }] _ _
      gi_wp2_with (refine ⟨trivial, ?_⟩; gi_at_call 84; refine (CallsIn.inRound l (callsIn_wide.2 (Clone_ints _ xl _ HXY.out HXL.out))).mono ?_; rintro e w4 ⟨v', rfl, ho4, hb4⟩; obtain ⟨u, rfl, -⟩ := hd_of (Sl.of_own ic_len ho4); obtain ⟨z8, z9, ⟨zv, zc⟩, zf, hfin⟩ := HYY.out.next HP.out hb4 ho4; have HFIN := Go.Lib.hid hfin; clear hfin ho4 hb4)
      obtain ⟨q1, q2, q3, q4⟩ := HFIN.out
      exact ⟨q2.from _, ⟨q4 _ (by have := HI.out.le; omega) (by have := hb1.size; omega) (by omega), q4 _ (by have := HI.out.le; omega) (by have := hb1.size; omega) (by omega)⟩, by have h := q1; rw [← HS.out] at h; exact h⟩
    · show wpListIn _ _ _ _ _ [{ dst := some 22, op := Op.move (Operand.tmp 10), type := 47, pos := "new.go:44", after := #[], guard := none }, { dst := some 21, op := Op.load 3 (Operand.tmp 9), type := 3, pos := "new.go:44", after := #[], guard := none }, { dst := some 20, op := Op.load 22 (Operand.tmp 8), type := 22, pos := "new.go:44", after := #[], guard := none }, { dst := some 23, op := Op.call { callee := Callee.value (Operand.func 84), args := #[Operand.tmp 22], argTypes := #[47] }, type := 47, pos := "new.go:44", after := #[{ on := 2, ground := Ground.data }], guard := none }, { dst := some 24, op := Op.indexAddr 22 (Operand.tmp 20) (Operand.tmp 21), type := 0, pos := "new.go:44", after := #[{ on := 0, ground := Ground.data }, { on := 1, ground := Ground.data }, { on := 0, ground := Ground.phase }, { on := 1, ground := Ground.phase }, { on := 2, ground := Ground.phase }, { on := 3, ground := Ground.phase }], guard := none }, { dst := none, op := Op.store 47 (Operand.tmp 24) (Operand.tmp 23), type := 0, pos := "new.go:44", after := #[{ on := 4, ground := Ground.data }, { on := 3, ground := Ground.data }, { on := 3, ground := Ground.chain }, { on := 0, ground := Ground.phase }, { on := 1, ground := Ground.phase }, { on := 2, ground := Ground.phase }, { on := 3, ground := Ground.phase }], guard := none }] _ _
      gi_wp2_with (refine ⟨trivial, ?_⟩; gi_at_call 84; refine (CallsIn.inRound l (callsIn_wide.2 (Clone_ints _ xl _ HXY.out HXL.out))).mono ?_; rintro e w4 ⟨v', rfl, ho4, hb4⟩; obtain ⟨u, rfl, -⟩ := hd_of (Sl.of_own ic_len ho4); obtain ⟨z8, z9, ⟨zv, zc⟩, zf, hfin⟩ := HYY.out.next HP.out hb4 ho4; have HFIN := Go.Lib.hid hfin; clear hfin ho4 hb4)
      obtain ⟨q1, q2, q3, q4⟩ := HFIN.out
      exact ⟨q2.from _, ⟨q4 _ (by have := HI.out.le; omega) (by have := hb1.size; omega) (by omega), q4 _ (by have := HI.out.le; omega) (by have := hb1.size; omega) (by omega)⟩, by have h := q1; rw [← HS.out] at h; exact h⟩
    · show wpListIn _ _ _ _ _ [{ dst := some 22, op := Op.move (Operand.tmp 10), type := 47, pos := "new.go:44", after := #[], guard := none }, { dst := some 21, op := Op.load 3 (Operand.tmp 9), type := 3, pos := "new.go:44", after := #[], guard := none }, { dst := some 23, op := Op.call { callee := Callee.value (Operand.func 84), args := #[Operand.tmp 22], argTypes := #[47] }, type := 47, pos := "new.go:44", after := #[{ on := 2, ground := Ground.data }], guard := none }, { dst := some 20, op := Op.load 22 (Operand.tmp 8), type := 22, pos := "new.go:44", after := #[], guard := none }, { dst := some 24, op := Op.indexAddr 22 (Operand.tmp 20) (Operand.tmp 21), type := 0, pos := "new.go:44", after := #[{ on := 0, ground := Ground.data }, { on := 1, ground := Ground.data }, { on := 0, ground := Ground.phase }, { on := 1, ground := Ground.phase }, { on := 2, ground := Ground.phase }, { on := 3, ground := Ground.phase }], guard := none }, { dst := none, op := Op.store 47 (Operand.tmp 24) (Operand.tmp 23), type := 0, pos := "new.go:44", after := #[{ on := 4, ground := Ground.data }, { on := 3, ground := Ground.data }, { on := 3, ground := Ground.chain }, { on := 0, ground := Ground.phase }, { on := 1, ground := Ground.phase }, { on := 2, ground := Ground.phase }, { on := 3, ground := Ground.phase }], guard := none }] _ _
      gi_wp2_with (refine ⟨trivial, ?_⟩; gi_at_call 84; refine (CallsIn.inRound l (callsIn_wide.2 (Clone_ints _ xl _ HXY.out HXL.out))).mono ?_; rintro e w4 ⟨v', rfl, ho4, hb4⟩; obtain ⟨u, rfl, -⟩ := hd_of (Sl.of_own ic_len ho4); obtain ⟨z8, z9, ⟨zv, zc⟩, zf, hfin⟩ := HYY.out.next HP.out hb4 ho4; have HFIN := Go.Lib.hid hfin; clear hfin ho4 hb4)
      obtain ⟨q1, q2, q3, q4⟩ := HFIN.out
      exact ⟨q2.from _, ⟨q4 _ (by have := HI.out.le; omega) (by have := hb1.size; omega) (by omega), q4 _ (by have := HI.out.le; omega) (by have := hb1.size; omega) (by omega)⟩, by have h := q1; rw [← HS.out] at h; exact h⟩
    · show wpListIn _ _ _ _ _ [{ dst := some 22, op := Op.move (Operand.tmp 10), type := 47, pos := "new.go:44", after := #[], guard := none }, { dst := some 23, op := Op.call { callee := Callee.value (Operand.func 84), args := #[Operand.tmp 22], argTypes := #[47] }, type := 47, pos := "new.go:44", after := #[{ on := 2, ground := Ground.data }], guard := none }, { dst := some 20, op := Op.load 22 (Operand.tmp 8), type := 22, pos := "new.go:44", after := #[], guard := none }, { dst := some 21, op := Op.load 3 (Operand.tmp 9), type := 3, pos := "new.go:44", after := #[], guard := none }, { dst := some 24, op := Op.indexAddr 22 (Operand.tmp 20) (Operand.tmp 21), type := 0, pos := "new.go:44", after := #[{ on := 0, ground := Ground.data }, { on := 1, ground := Ground.data }, { on := 0, ground := Ground.phase }, { on := 1, ground := Ground.phase }, { on := 2, ground := Ground.phase }, { on := 3, ground := Ground.phase }], guard := none }, { dst := none, op := Op.store 47 (Operand.tmp 24) (Operand.tmp 23), type := 0, pos := "new.go:44", after := #[{ on := 4, ground := Ground.data }, { on := 3, ground := Ground.data }, { on := 3, ground := Ground.chain }, { on := 0, ground := Ground.phase }, { on := 1, ground := Ground.phase }, { on := 2, ground := Ground.phase }, { on := 3, ground := Ground.phase }], guard := none }] _ _
      gi_wp2_with (refine ⟨trivial, ?_⟩; gi_at_call 84; refine (CallsIn.inRound l (callsIn_wide.2 (Clone_ints _ xl _ HXY.out HXL.out))).mono ?_; rintro e w4 ⟨v', rfl, ho4, hb4⟩; obtain ⟨u, rfl, -⟩ := hd_of (Sl.of_own ic_len ho4); obtain ⟨z8, z9, ⟨zv, zc⟩, zf, hfin⟩ := HYY.out.next HP.out hb4 ho4; have HFIN := Go.Lib.hid hfin; clear hfin ho4 hb4)
      obtain ⟨q1, q2, q3, q4⟩ := HFIN.out
      exact ⟨q2.from _, ⟨q4 _ (by have := HI.out.le; omega) (by have := hb1.size; omega) (by omega), q4 _ (by have := HI.out.le; omega) (by have := hb1.size; omega) (by omega)⟩, by have h := q1; rw [← HS.out] at h; exact h⟩
    · show wpListIn _ _ _ _ _ [{ dst := some 22, op := Op.move (Operand.tmp 10), type := 47, pos := "new.go:44", after := #[], guard := none }, { dst := some 23, op := Op.call { callee := Callee.value (Operand.func 84), args := #[Operand.tmp 22], argTypes := #[47] }, type := 47, pos := "new.go:44", after := #[{ on := 2, ground := Ground.data }], guard := none }, { dst := some 21, op := Op.load 3 (Operand.tmp 9), type := 3, pos := "new.go:44", after := #[], guard := none }, { dst := some 20, op := Op.load 22 (Operand.tmp 8), type := 22, pos := "new.go:44", after := #[], guard := none }, { dst := some 24, op := Op.indexAddr 22 (Operand.tmp 20) (Operand.tmp 21), type := 0, pos := "new.go:44", after := #[{ on := 0, ground := Ground.data }, { on := 1, ground := Ground.data }, { on := 0, ground := Ground.phase }, { on := 1, ground := Ground.phase }, { on := 2, ground := Ground.phase }, { on := 3, ground := Ground.phase }], guard := none }, { dst := none, op := Op.store 47 (Operand.tmp 24) (Operand.tmp 23), type := 0, pos := "new.go:44", after := #[{ on := 4, ground := Ground.data }, { on := 3, ground := Ground.data }, { on := 3, ground := Ground.chain }, { on := 0, ground := Ground.phase }, { on := 1, ground := Ground.phase }, { on := 2, ground := Ground.phase }, { on := 3, ground := Ground.phase }], guard := none }] _ _
      gi_wp2_with (refine ⟨trivial, ?_⟩; gi_at_call 84; refine (CallsIn.inRound l (callsIn_wide.2 (Clone_ints _ xl _ HXY.out HXL.out))).mono ?_; rintro e w4 ⟨v', rfl, ho4, hb4⟩; obtain ⟨u, rfl, -⟩ := hd_of (Sl.of_own ic_len ho4); obtain ⟨z8, z9, ⟨zv, zc⟩, zf, hfin⟩ := HYY.out.next HP.out hb4 ho4; have HFIN := Go.Lib.hid hfin; clear hfin ho4 hb4)
      obtain ⟨q1, q2, q3, q4⟩ := HFIN.out
      exact ⟨q2.from _, ⟨q4 _ (by have := HI.out.le; omega) (by have := hb1.size; omega) (by omega), q4 _ (by have := HI.out.le; omega) (by have := hb1.size; omega) (by omega)⟩, by have h := q1; rw [← HS.out] at h; exact h⟩
  case done =>
    rintro D ys W hD hys hI hK
    have hI1 := FillI.own hwX (f := pcs) ys W W.drew none hI ⟨rfl, rfl, rfl, Nat.le_refl _, fun _ _ _ => rfl⟩ (fun r e => by cases e)
    have hI2 := OwnFrom.putObj (FillI.own hwX (f := pcs)) (s := ys) (.deferred none) hI1 hD hK rfl
    have c8 : W.drew.cell? ⟨w1.heap.size, 0, none⟩ = some (.slice (some ⟨w.heap.size, 0, none⟩) (nb + 1) (nb + 1)) := hI1.c8.cell 0
    have c9 : W.drew.cell? ⟨w1.heap.size + 1, 0, none⟩ = some (.int .i64 (fullN k m : Int)) := by have := hI1.c9.cell 0; rw [hys, chunk_len] at this; exact this
    rw [hys, ← HGM.out] at hI2
    have HI2 := Go.Lib.hid hI2
    have hK2 : W.drew.heap[D]? = some (.deferred (some [])) := hK
    have HGR := Go.Lib.hid (hI2.rows (by omega) (by rw [HGM.out]; exact HF.out) hwX)
    clear hI hI1 hI2 hI0 hys hK
    obtain ⟨V, hV⟩ : ∃ V, W.drew = V := ⟨_, rfl⟩
    gi_wp2
    refine wpIn_region_orders (L := [[0, 1, 2, 3], [0, 2, 1, 3], [1, 0, 2, 3]]) (by kernel_rfl) (by kernel_rfl) ?_
    intro o ho
    rw [hV] at c8 c9 hK2 HI2 HGR ⊢
    clear hV
    simp only [List.mem_cons, List.not_mem_nil, or_false] at ho
    rcases ho with rfl | rfl | rfl
    · show wpListIn _ _ _ _ _ [{ dst := some 25, op := Op.load 22 (Operand.tmp 8), type := 22, pos := "new.go:46", after := #[], guard := none }, { dst := some 26, op := Op.load 3 (Operand.tmp 9), type := 3, pos := "new.go:46", after := #[{ on := 2, ground := Ground.gcOnly Departure.lateStores }], guard := none }, { dst := some 6, op := Op.assign (Operand.tmp 25), type := 22, pos := "new.go:46", after := #[{ on := 0, ground := Ground.data }, { on := 0, ground := Ground.phase }, { on := 1, ground := Ground.textOnly Departure.lateStores }], guard := none }, { dst := some 7, op := Op.assign (Operand.tmp 26), type := 3, pos := "new.go:46", after := #[{ on := 1, ground := Ground.data }, { on := 2, ground := Ground.chain }, { on := 0, ground := Ground.phase }, { on := 1, ground := Ground.phase }, { on := 2, ground := Ground.phase }], guard := none }] _ _
      gi_wp2
      refine ⟨by simp, .inl ⟨_, _, rfl, run_takeDeferred hK2, ?_⟩⟩
      refine ⟨.tuple #[.slice (some ⟨w.heap.size, 0, none⟩) (nb + 1) (nb + 1), .int .i64 (fullN k m : Int)], by simp [results, Tryz.results53, go_sem], (some ⟨w.heap.size, 0, none⟩, nb + 1, nb + 1), rfl, HGR.out, HI2.out.bw⟩
    · show wpListIn _ _ _ _ _ [{ dst := some 25, op := Op.load 22 (Operand.tmp 8), type := 22, pos := "new.go:46", after := #[], guard := none }, { dst := some 6, op := Op.assign (Operand.tmp 25), type := 22, pos := "new.go:46", after := #[{ on := 0, ground := Ground.data }, { on := 0, ground := Ground.phase }, { on := 1, ground := Ground.textOnly Departure.lateStores }], guard := none }, { dst := some 26, op := Op.load 3 (Operand.tmp 9), type := 3, pos := "new.go:46", after := #[{ on := 2, ground := Ground.gcOnly Departure.lateStores }], guard := none }, { dst := some 7, op := Op.assign (Operand.tmp 26), type := 3, pos := "new.go:46", after := #[{ on := 1, ground := Ground.data }, { on := 2, ground := Ground.chain }, { on := 0, ground := Ground.phase }, { on := 1, ground := Ground.phase }, { on := 2, ground := Ground.phase }], guard := none }] _ _
      gi_wp2
      refine ⟨by simp, .inl ⟨_, _, rfl, run_takeDeferred hK2, ?_⟩⟩
      refine ⟨.tuple #[.slice (some ⟨w.heap.size, 0, none⟩) (nb + 1) (nb + 1), .int .i64 (fullN k m : Int)], by simp [results, Tryz.results53, go_sem], (some ⟨w.heap.size, 0, none⟩, nb + 1, nb + 1), rfl, HGR.out, HI2.out.bw⟩
    · show wpListIn _ _ _ _ _ [{ dst := some 26, op := Op.load 3 (Operand.tmp 9), type := 3, pos := "new.go:46", after := #[{ on := 2, ground := Ground.gcOnly Departure.lateStores }], guard := none }, { dst := some 25, op := Op.load 22 (Operand.tmp 8), type := 22, pos := "new.go:46", after := #[], guard := none }, { dst := some 6, op := Op.assign (Operand.tmp 25), type := 22, pos := "new.go:46", after := #[{ on := 0, ground := Ground.data }, { on := 0, ground := Ground.phase }, { on := 1, ground := Ground.textOnly Departure.lateStores }], guard := none }, { dst := some 7, op := Op.assign (Operand.tmp 26), type := 3, pos := "new.go:46", after := #[{ on := 1, ground := Ground.data }, { on := 2, ground := Ground.chain }, { on := 0, ground := Ground.phase }, { on := 1, ground := Ground.phase }, { on := 2, ground := Ground.phase }], guard := none }] _ _
      gi_wp2
      refine ⟨by simp, .inl ⟨_, _, rfl, run_takeDeferred hK2, ?_⟩⟩
      refine ⟨.tuple #[.slice (some ⟨w.heap.size, 0, none⟩) (nb + 1) (nb + 1), .int .i64 (fullN k m : Int)], by simp [results, Tryz.results53, go_sem], (some ⟨w.heap.size, 0, none⟩, nb + 1, nb + 1), rfl, HGR.out, HI2.out.bw⟩
  case stop =>
    rintro D c pre W _ _ h _
    exact h.elim
end Go.Proofs.YtdmbcjckgfjcaaaGreatDoor
