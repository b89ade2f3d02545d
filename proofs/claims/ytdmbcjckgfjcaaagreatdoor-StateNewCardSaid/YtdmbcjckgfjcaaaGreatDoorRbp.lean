import Derived.RangeFuncBox
import Derived.RangeFuncNested
import Derived.RangeFuncBound
import Derived.RangeFuncCalls
import Derived.RangeFuncLeaves
import Derived.Shelf.Abstract
import Derived.Shelf.AbstractIn
import Derived.WalkKit
import Derived.OwnWalkIn
import Derived.TacticsInMore
import Derived.LoopNIn
import Derived.LoopIn
import Derived.Maps.AppendAt
import Derived.Shelf.Vars
import Derived.Lib.LaidTab
import Derived.Test.YtdmbcjckgfjcaaaGreatDoorRat
import Derived.Test.YtdmbcjckgfjcaaaGreatDoorRbo
import Derived.Test.YtdmbcjckgfjcaaaGreatDoorRaf
/- Layer set: the iterator over a set's objects, for every loop body; slices.Collect of it. -/
namespace Go.Proofs.YtdmbcjckgfjcaaaGreatDoor
open Go.RowKit Go.Shelf Go.Proofs
attribute [local go_sem] Oper.semAt_some
theorem tab_lt {g : Nat} {w : World} (h : TabAt g Go.Lib.deBruijn64tab w) : g < w.heap.size := World.block_lt_of_cell? w _ (h 0 (by decide))
theorem tab_below {g n : Nat} {w w' : World} (h : TabAt g Go.Lib.deBruijn64tab w) (hg : g < n) (hb : Below n w w') : TabAt g Go.Lib.deBruijn64tab w' :=
  fun j hj => (hb.cell (p := ⟨g, j, none⟩) hg).trans (h j hj)
/-- the one table that a set's list reads -/
structure EnvT (w : World) : Prop where
  tab : TabAt 0 Go.Lib.deBruijn64tab w
theorem EnvT.below {w w' : World} (h : EnvT w) (hb : Below w.heap.size w w') : EnvT w' := ⟨tab_below h.tab (tab_lt h.tab) hb⟩
theorem EnvT.alloc {w : World} (h : EnvT w) (o : Obj) : EnvT (w.alloc o) := h.below ((Below.refl _ _).alloc (Nat.le_refl _) _)
/-- an object -/
abbrev Ob := { x : Int // 1 ≤ x ∧ x ≤ 64 }
def vals (l : List Ob) : List Int := l.map fun x => x.1
theorem vals_snoc (l : List Ob) (x : Ob) : vals (l ++ [x]) = vals l ++ [x.1] := by simp [vals]
theorem vals_len (l : List Ob) : (vals l).length = l.length := by simp [vals]
set_option maxRecDepth 100000 in
set_option maxHeartbeats 2000000 in
theorem iter_in (n : Nat) (hn : 1 ≤ n) (l Bn n₀ s : Nat) (hs : s < 18446744073709551616) (J Jx : List Ob → World → Prop)
    (hY : ∀ pre (x : Ob) W, J pre W → pre.length < 64 → YieldAt Fence.wide (n - 1) Tryz.prog l #[.int .i64 x.1] W fun e W' =>
      (e = .returned (.bool true) ∧ J (pre ++ [x]) W' ∧ Below n₀ W W') ∨ (e = .returned (.bool false) ∧ Jx (pre ++ [x]) W'))
    (W : World) (hBn : W.cell? ⟨Bn, 0, none⟩ = some (.int .u64 s)) (hT : TabAt 0 Go.Lib.deBruijn64tab W) (hg : 0 < n₀) (h0 : J [] W) :
    CallsIn Fence.wide n Tryz.prog 152 #[.func (.yield l) #[] #[], .pointer (some ⟨Bn, 0, none⟩)] W fun e W' => (∃ v, e = .returned v) ∧
      ((∃ ys, vals ys = objs s ∧ J ys W') ∨ (∃ pre, vals pre <+: objs s ∧ Jx pre W')) := by
  refine callsIn_of_wp Tryz.func152 rfl trivial ?_ rfl
  simp only [Tryz.ntmps152, List.size_toArray, List.length_cons, List.length_nil, Nat.reduceAdd, Nat.reduceSub, Array.replicate_succ, Array.replicate_zero, List.push_toArray, List.append_toArray, List.nil_append, List.cons_append]
  have hlen := objs_len s
  gi_wp2
  gi_loopw [3] (fun p wr => ∃ (pre : List Ob) (r : Nat), p = .int .u64 r ∧ r < 18446744073709551616 ∧ vals pre ++ objs r = objs s ∧ TabAt 0 Go.Lib.deBruijn64tab wr ∧ J pre wr)
    (fun p _ => (Go.RowKit.intOf p).toNat)
  case atStart => exact ⟨[], s, rfl, hs, by simp [vals], hT, h0⟩
  case round =>
    obtain ⟨pre, r, rfl, hr, hx, hTr, hJs⟩ := hrel
    by_cases hr0 : r = 0
    · subst hr0
      rw [objs_zero, List.append_nil] at hx
      have HX := Go.Lib.hid hx
      have HT := Go.Lib.hid hTr
      clear hx hTr hT
      gi_wp2
      go_end0
      exact ⟨⟨_, rfl⟩, .inl ⟨pre, HX.out, hJs⟩⟩
    · have hstep := objs_step hr0 hr
      have hck := (low_step hr0 hr).1
      have hband := bits_and_u64_nat r (r - 1) hr (by omega)
      have hle : r &&& (r - 1) ≤ r - 1 := Nat.and_le_right
      have hc64 := tz64 r hr wr (fun _ => hTr)
      generalize r &&& (r - 1) = r' at hstep hband hle
      generalize Go.Lib.ctz 64 r = c at hstep hck hc64
      have HC := Go.Lib.hid hc64
      have HS := Go.Lib.hid hstep
      have HB := Go.Lib.hid hband
      have HT := Go.Lib.hid hTr
      have HX := Go.Lib.hid hx
      have hpl : pre.length < 64 := by
        have h1 : (vals pre ++ objs r).length = (objs s).length := by rw [hx]
        rw [List.length_append, vals_len, hstep, List.length_cons] at h1
        omega
      obtain ⟨fn, tmps, assign, body, hy, hR⟩ := hY pre ⟨(c : Int) + 1, by omega⟩ wr hJs hpl
      have HR := Go.Lib.hid hR
      clear hx hTr hT hstep hband hR hc64 hpl
      dsimp only at hy
      have hne : ((r : Int) != 0) = true := by rw [bne_iff_ne]; omega
      gi_wp2_with (refine ⟨trivial, ?_⟩; gi_at_call 153; refine (callsIn_wide.2 HC.out).mono ?_; rintro e w' ⟨rfl, rfl⟩)
      refine HR.out.mono ?_
      rintro e W3 (⟨rfl, hJ3, hk3⟩ | ⟨rfl, hJx3⟩)
      · gi_wp2
        have hbe : bits BinOp.and IntKind.u64 (r : Int) ((r : Int) - 1) = (r' : Int) := by rw [show ((r : Int) - 1) = ((r - 1 : Nat) : Int) by omega]; exact HB.out
        rw [hbe]
        exact ⟨⟨pre ++ [⟨(c : Int) + 1, by omega⟩], r', rfl, by omega, by rw [vals_snoc, ← HX.out, HS.out]; simp, tab_below HT.out hg hk3, hJ3⟩, by simp [Go.RowKit.intOf]; omega⟩
      · gi_wp2
        refine bodyPost_ret (results_none rfl _ _ _) rfl ?_
        refine ⟨⟨_, rfl⟩, .inr ⟨pre ++ [⟨(c : Int) + 1, by omega⟩], ?_, hJx3⟩⟩
        rw [vals_snoc, ← HX.out, HS.out]
        exact ⟨objs r', by simp⟩
/-- the iterator's contract -/
theorem iter_stops (n : Nat) (hn : 1 ≤ n) (Bn n₀ s : Nat) (hs : s < 18446744073709551616) (w : World) (hBn : Bn < w.heap.size) (_hn₀ : n₀ ≤ w.heap.size) (hc : w.cell? ⟨Bn, 0, none⟩ = some (.int .u64 s)) (hT : TabAt 0 Go.Lib.deBruijn64tab w) (hg : 0 < n₀) :
    SeqStopsK Fence.wide n Tryz.prog 152 #[.pointer (some ⟨Bn, 0, none⟩)] (fun x : Ob => #[Value.int .i64 x.1]) (Below n₀) (fun ys => vals ys = objs s) (fun pre => vals pre <+: objs s) 64 w := fun l J Jx W hW _ _ hY h0 =>
  iter_in n hn l Bn n₀ s hs J Jx hY W ((hW.cell (p := ⟨Bn, 0, none⟩) hBn).trans hc) (tab_below hT (by omega) hW) hg h0
theorem objects_any (s : Nat) (w : World) :
    Calls Tryz.prog 110 #[.int .u64 s] w fun e w' => e = .returned (.func (.func 152) #[] #[.pointer (some ⟨w.heap.size, 0, none⟩)]) ∧ w' = w.alloc (.cells #[.int .u64 s] 26) := by
  go_enter Tryz.func110, Tryz.ntmps110
  go_wp2
  go_ret
  exact ⟨rfl, rfl⟩
theorem info3 : (Tryz.prog.info? 3).map (fun i => (i.zero, i.size, i.bytes)) = some (some (.int .i64 0), 1, 8) := by kernel_rfl
set_option maxRecDepth 100000 in
set_option maxHeartbeats 2000000 in
theorem AppendSeq_in (Bn s : Nat) (hs : s < 18446744073709551616) (w : World) (hBn : Bn < w.heap.size) (hc : w.cell? ⟨Bn, 0, none⟩ = some (.int .u64 s)) (hT : TabAt 0 Go.Lib.deBruijn64tab w) :
    CallsIn Fence.wide 4 Tryz.prog 151 #[.slice none 0 0, .func (.func 152) #[] #[.pointer (some ⟨Bn, 0, none⟩)]] w fun e W' => ∃ v, e = .returned v ∧ W'.ownsRow w.heap.size 3 1 v (objs s).length ((objs s).map (Value.int .i64)) ∧ Below w.heap.size w W' := by
  obtain ⟨i0, hi, hz0, hz1, hz2⟩ := info_parts info3
  have hTl := tab_lt hT
  refine callsIn_of_wp_marks Tryz.func151 rfl trivial ?_ rfl
  simp only [Tryz.ntmps151, List.size_toArray, List.length_cons, List.length_nil, Nat.reduceAdd, Nat.reduceSub, Array.replicate_succ, Array.replicate_zero, List.push_toArray, List.append_toArray, List.nil_append, List.cons_append]
  gi_wp2
  have bO := Boxed.new w 47 (.slice none 0 0)
  have hB0 : Below w.heap.size w (w.alloc (.cells #[.slice none 0 0] 47)) := (Below.refl _ w).alloc (Nat.le_refl _) _
  refine wpIn_rangeFunc_ownG rfl (by decide) (gf := 152) (lb := #[.pointer (some ⟨Bn, 0, none⟩)]) rfl trivial (enters_of Tryz.func152 (by kernel_rfl) rfl)
    (iter_stops (4 - 1) (by decide) Bn w.heap.size s hs _ (by simp; omega) (by simp) ((hB0.cell (p := ⟨Bn, 0, none⟩) hBn).trans hc) (tab_below hT hTl hB0) hTl) belowK_t (belowK_b (by simp)) (Below.refl _ _) (fun _ => rfl)
    (fun pre W => (∃ v, Boxed W w.heap.size 47 v ∧ W.ownsRow w.heap.size 3 1 v pre.length ((vals pre).map (Value.int .i64)) ∧ True) ∧ Below w.heap.size w W)
    (fun _ _ _ => False)
    (OwnFrom.and (Own.from (holdsRow_own w.heap.size w.heap.size 47 3 1 (fun pre => pre.length) (fun pre => (vals pre).map (Value.int .i64)) (fun pre v => True)) _) (ownFrom_below (Nat.le_refl _) (by simp)))
    (fun _ _ _ _ _ hs _ _ => hs)
    ⟨⟨_, bO, World.ownsRow_nil _ _ _ _, trivial⟩, hB0⟩
    (fun x => { tmps := #[.slice none 0 0, .func (.func 152) #[] #[.pointer (some ⟨Bn, 0, none⟩)], .pointer (some ⟨w.heap.size, 0, none⟩), undef, .slice none 0 0, .int .i64 x.1, .func (.func 152) #[] #[.pointer (some ⟨Bn, 0, none⟩)], .int .i64 x.1, undef, undef, undef, undef, undef], defers := [] }) ?assign ?body ?done ?stop
  case assign =>
    intro l x W K hK
    gi_wp2
    exact hK
  case body =>
    rintro l pre x W ⟨⟨v, hv, hrow, -⟩, hB⟩ hlt
    have hc := hv.cell
    gi_wp2_with (gi_at_builtin; refine wpListIn_append_own _ rfl _ _ 47 rfl w.heap.size 3 i0 (.int .i64 0) 1 8 Tryz.underlying47 hi hz0 hz1 hz2 rfl (by decide) _ _ _ rfl (hrow.alloc _) ⟨W.heap.size, 0, none⟩ 1 1 [.int .i64 x.1] rfl rfl (cell_one_new _ _ _) (by simp [Value.oneCell']) (by simp only [maxLen]; omega) (by omega) (by have := hB.size; simp; omega) ?_; intro v' w1 hown' hgrow _; obtain ⟨g', cap', rfl⟩ := ownsRow_succ hown'; obtain ⟨hv1, hv2, hr2, hk2, hb2⟩ := hv.appended (by decide) hrow hB.size (Nat.le_refl _) hown' hgrow; have hc1 := hv1.cell; have hf1 := hv1.frozen)
    exact ⟨hk2.from _, hb2, ⟨_, hv2, by rw [vals_snoc]; simpa using hr2, trivial⟩, hB.trans hb2⟩
  case done =>
    rintro D ys W hD hys ⟨⟨v, hv, hrow, -⟩, hB⟩ hK
    have hc := hv.cell
    rw [← vals_len, hys] at hrow
    clear hys
    gi_wp2
    refine ⟨by simp, .inl ⟨_, _, rfl, run_takeDeferred hK, ?_⟩⟩
    refine ⟨_, results_tmp rfl _ _ _, v, rfl, ownsRow_putObj hrow _ hK rfl, hB.trans (belowK_b (w := w) (Nat.le_refl _) W D _ _ (by simp at hD; omega) hK rfl rfl)⟩
  case stop =>
    rintro D c pre W _ _ h _
    exact h.elim
set_option maxHeartbeats 1000000 in
theorem Collect_any (Bn s : Nat) (hs : s < 18446744073709551616) (w : World) (hBn : Bn < w.heap.size) (hc : w.cell? ⟨Bn, 0, none⟩ = some (.int .u64 s)) (hT : TabAt 0 Go.Lib.deBruijn64tab w) :
    Calls Tryz.prog 109 #[.func (.func 152) #[] #[.pointer (some ⟨Bn, 0, none⟩)]] w fun e W' => ∃ v, e = .returned v ∧ W'.ownsRow w.heap.size 3 1 v (objs s).length ((objs s).flatMap ic) ∧ Below w.heap.size w W' := by
  have hA := Go.Lib.hid ((callsIn_wide (n := 4)).1 (AppendSeq_in Bn s hs w hBn hc hT))
  clear hc hT
  go_enter Tryz.func109, Tryz.ntmps109
  go_wp2_with fail
  refine hA.out.mono ?_
  rintro e w' ⟨v, rfl, hr, hb⟩
  rw [ic_map] at hr
  go_wp2
  go_ret
  exact ⟨v, rfl, hr, hb⟩
theorem List_tab (s : Nat) (hs : s < 18446744073709551616) (w : World) (hE : EnvT w) :
    Calls Tryz.prog 54 #[.int .u64 s] w fun e W' => ∃ v, e = .returned v ∧ W'.ownsRow w.heap.size 3 1 v (objs s).length ((objs s).flatMap ic) ∧ Below w.heap.size w W' := by
  have hE1 := Go.Lib.hid (hE.alloc (.cells #[.int .u64 s] 26)).tab
  clear hE
  go_enter Tryz.func54, Tryz.ntmps54
  go_wp2_with fail
  refine (objects_any _ _).mono ?_
  rintro e w' ⟨rfl, rfl⟩
  go_wp2_with fail
  refine (Collect_any _ s hs _ (by simp) (by simp) hE1.out).mono ?_
  rintro e w' ⟨v, rfl, hr, hb⟩
  go_wp2
  go_ret
  exact ⟨v, rfl, own_base hr (by simp), bcall1 (Below.refl _ _) hb⟩
end Go.Proofs.YtdmbcjckgfjcaaaGreatDoor
/- Layer state: what the listed table holds, for the walks. -/
namespace Go.Proofs.YtdmbcjckgfjcaaaGreatDoor
open Go.RowKit Go.WideShapes Go.ChangeShapes Go.ChangeAt Go.Shelf Go.Proofs
theorem tab_data64Sa : (Rows.laid_math_bits_deBruijn64tab : DataW Unit) = Go.Lib.tabData .u8 (Go.Lib.deBruijn64tab.map Int.ofNat) := rfl
theorem envT_of_laidSa {W : World} (h : laidMetH Tryz.prog Rows.stateSameRow.laid W) : EnvT W := by
  rw [MakeChecks.laidMetH_plain _ _ _ (by kernel_rfl)] at h
  have h1 : laidMet Tryz.prog [("math/bits.deBruijn64tab", Rows.laid_math_bits_deBruijn64tab)] W := h
  rw [tab_data64Sa] at h1
  refine ⟨fun j hj => ?_⟩
  have ht := Go.Lib.tabIs_of_head (g := 0) (t := 257) (by kernel_rfl) (by kernel_rfl) Tryz.underlying257 Tryz.underlying5 (by kernel_rfl) (by kernel_rfl) h1
  have := ht.cell (g := 0) (by kernel_rfl) j (by simpa using hj)
  rw [this]
  simp [List.getD, hj]
end Go.Proofs.YtdmbcjckgfjcaaaGreatDoor
