import Derived.Shelf.Abstract
import Derived.Shelf.AbstractIn
import Derived.OwnWalkIn
import Derived.TacticsInMore
import Derived.LoopNIn
import Derived.LoopIn
import Derived.Maps.AppendAt
import Derived.Test.YtjbaiibbgplljaaGreatDoorPat
import Derived.Test.YtjbaiibbgplljaaGreatDoorPay
import Derived.Test.YtjbaiibbgplljaaGreatDoorPad
set_option maxRecDepth 100000
set_option maxHeartbeats 40000000
namespace Go.Proofs.YtjbaiibbgplljaaGreatDoor
open Go.RowKit Go.Shelf Go.Proofs
attribute [local go_sem] Oper.semAt_some
structure Env (w : World) : Prop where
 tab : TabAt 1 Go.Lib.deBruijn64tab w
 syn : ∃ te pe, w.cell? ⟨5, 0, none⟩ = some (.iface te pe)
 ran : ∃ te pe, w.cell? ⟨6, 0, none⟩ = some (.iface te pe)
 mx : ∃ m, w.cell? ⟨0, 0, none⟩ = some (.int .i64 m)
theorem tab_lt {g : Nat} {w : World} (h : TabAt g Go.Lib.deBruijn64tab w) : g < w.heap.size := World.block_lt_of_cell? w _ (h 0 (by decide))
theorem tab_below {g n : Nat} {w w' : World} (h : TabAt g Go.Lib.deBruijn64tab w) (hg : g < n) (hb : Below n w w') : TabAt g Go.Lib.deBruijn64tab w' :=
 fun j hj => (hb.cell (p := ⟨g, j, none⟩) hg).trans (h j hj)
theorem Env.below {w w' : World} (h : Env w) (hb : Below w.heap.size w w') : Env w' := by
 obtain ⟨h1, ⟨a, b, h2⟩, ⟨c, d, h3⟩, ⟨m, h4⟩⟩ := h; exact ⟨tab_below h1 (tab_lt h1) hb, ⟨a, b, (hb.cell (World.block_lt_of_cell? w _ h2)).trans h2⟩, ⟨c, d, (hb.cell (World.block_lt_of_cell? w _ h3)).trans h3⟩, ⟨m, (hb.cell (World.block_lt_of_cell? w _ h4)).trans h4⟩⟩
structure EnvT (w : World) : Prop where
 tab : TabAt 1 Go.Lib.deBruijn64tab w
theorem EnvT.below {w w' : World} (h : EnvT w) (hb : Below w.heap.size w w') : EnvT w' := ⟨tab_below h.tab (tab_lt h.tab) hb⟩
theorem EnvT.alloc {w : World} (h : EnvT w) (o : Obj) : EnvT (w.alloc o) := h.below ((Below.refl _ _).alloc (Nat.le_refl _) _)
abbrev Ob := { x : Int // 1 ≤ x ∧ x ≤ 64 }
def vals (l : List Ob) : List Int := l.map fun x => x.1
theorem vals_snoc (l : List Ob) (x : Ob) : vals (l ++ [x]) = vals l ++ [x.1] := by simp [vals]
theorem vals_len (l : List Ob) : (vals l).length = l.length := by simp [vals]
theorem iter_in (n : Nat) (hn : 1 ≤ n) (l Bn n₀ s : Nat) (hs : s < 18446744073709551616) (J Jx : List Ob → World → Prop)
 (hY : ∀ pre (x : Ob) W, J pre W → pre.length < 64 → YieldAt Fence.wide (n - 1) Tryz.prog l #[.int .i64 x.1] W fun e W' =>
  (e = .returned (.bool true) ∧ J (pre ++ [x]) W' ∧ Below n₀ W W') ∨ (e = .returned (.bool false) ∧ Jx (pre ++ [x]) W'))
 (W : World) (hBn : W.cell? ⟨Bn, 0, none⟩ = some (.int .u64 s)) (hT : TabAt 1 Go.Lib.deBruijn64tab W) (hg : 1 < n₀) (h0 : J [] W) :
 CallsIn Fence.wide n Tryz.prog 173 #[.func (.yield l) #[] #[], .pointer (some ⟨Bn, 0, none⟩)] W fun e W' => (∃ v, e = .returned v) ∧
  ((∃ ys, vals ys = objs s ∧ J ys W') ∨ (∃ pre, vals pre <+: objs s ∧ Jx pre W')) := by
 refine callsIn_of_wp Tryz.func173 rfl trivial ?_ rfl; simp only [Tryz.ntmps173, List.size_toArray, List.length_cons, List.length_nil, Nat.reduceAdd, Nat.reduceSub, Array.replicate_succ, Array.replicate_zero, List.push_toArray, List.append_toArray, List.nil_append, List.cons_append]; have hlen := objs_len s; gi_wp2
 gi_loopw [3] (fun p wr => ∃ (pre : List Ob) (r : Nat), p = .int .u64 r ∧ r < 18446744073709551616 ∧ vals pre ++ objs r = objs s ∧ TabAt 1 Go.Lib.deBruijn64tab wr ∧ J pre wr)
  (fun p _ => (intOf p).toNat)
 case atStart => exact ⟨[], s, rfl, hs, by simp [vals], hT, h0⟩
 case round =>
  obtain ⟨pre, r, rfl, hr, hx, hTr, hJs⟩ := hrel; by_cases hr0 : r = 0
  · subst hr0
    rw [objs_zero, List.append_nil] at hx; have HX := Go.Lib.hid hx; have HT := Go.Lib.hid hTr; clear hx hTr hT; gi_wp2
    go_end0
    exact ⟨⟨_, rfl⟩, .inl ⟨pre, HX.out, hJs⟩⟩
  · have hstep := objs_step hr0 hr
    have hck := (low_step hr0 hr).1; have hband := bits_and_u64_nat r (r - 1) hr (by omega); have hle : r &&& (r - 1) ≤ r - 1 := Nat.and_le_right; have hc64 := tz64 r hr wr (fun _ => hTr); generalize r &&& (r - 1) = r' at hstep hband hle; generalize Go.Lib.ctz 64 r = c at hstep hck hc64; have HC := Go.Lib.hid hc64; have HS := Go.Lib.hid hstep; have HB := Go.Lib.hid hband; have HT := Go.Lib.hid hTr; have HX := Go.Lib.hid hx; have hpl : pre.length < 64 := by
     have h1 : (vals pre ++ objs r).length = (objs s).length := by rw [hx]
     rw [List.length_append, vals_len, hstep, List.length_cons] at h1; omega
    obtain ⟨fn, tmps, assign, body, hy, hR⟩ := hY pre ⟨(c : Int) + 1, by omega⟩ wr hJs hpl; have HR := Go.Lib.hid hR; clear hx hTr hT hstep hband hR hc64 hpl; dsimp only at hy; have hne : ((r : Int) != 0) = true := by rw [bne_iff_ne]; omega
    gi_wp2_with (refine ⟨trivial, ?_⟩; gi_at_call 174; refine (callsIn_wide.2 HC.out).mono ?_; rintro e w' ⟨rfl, rfl⟩)
    refine HR.out.mono ?_; rintro e W3 (⟨rfl, hJ3, hk3⟩ | ⟨rfl, hJx3⟩)
    · gi_wp2
      have hbe : bits BinOp.and IntKind.u64 (r : Int) ((r : Int) - 1) = (r' : Int) := by rw [show ((r : Int) - 1) = ((r - 1 : Nat) : Int) by omega]; exact HB.out
      rw [hbe]; exact ⟨⟨pre ++ [⟨(c : Int) + 1, by omega⟩], r', rfl, by omega, by rw [vals_snoc, ← HX.out, HS.out]; simp, tab_below HT.out hg hk3, hJ3⟩, by simp [intOf]; omega⟩
    · gi_wp2
      refine bodyPost_ret (results_none rfl _ _ _) rfl ?_; refine ⟨⟨_, rfl⟩, .inr ⟨pre ++ [⟨(c : Int) + 1, by omega⟩], ?_, hJx3⟩⟩; rw [vals_snoc, ← HX.out, HS.out]; exact ⟨objs r', by simp⟩
theorem iter_stops (n : Nat) (hn : 1 ≤ n) (Bn n₀ s : Nat) (hs : s < 18446744073709551616) (w : World) (hBn : Bn < w.heap.size) (_hn₀ : n₀ ≤ w.heap.size) (hc : w.cell? ⟨Bn, 0, none⟩ = some (.int .u64 s)) (hT : TabAt 1 Go.Lib.deBruijn64tab w) (hg : 1 < n₀) :
 SeqStopsK Fence.wide n Tryz.prog 173 #[.pointer (some ⟨Bn, 0, none⟩)] (fun x : Ob => #[Value.int .i64 x.1]) (Below n₀) (fun ys => vals ys = objs s) (fun pre => vals pre <+: objs s) 64 w := fun l J Jx W hW _ _ hY h0 =>
 iter_in n hn l Bn n₀ s hs J Jx hY W ((hW.cell (p := ⟨Bn, 0, none⟩) hBn).trans hc) (tab_below hT (by omega) hW) hg h0
theorem objects_any (s : Nat) (w : World) :
 Calls Tryz.prog 143 #[.int .u64 s] w fun e w' => e = .returned (.func (.func 173) #[] #[.pointer (some ⟨w.heap.size, 0, none⟩)]) ∧ w' = w.alloc (.cells #[.int .u64 s] 26) := by
 go_enter Tryz.func143, Tryz.ntmps143
 go_wp2; go_ret
 exact ⟨rfl, rfl⟩
theorem info3 : (Tryz.prog.info? 3).map (fun i => (i.zero, i.size, i.bytes)) = some (some (.int .i64 0), 1, 8) := by kernel_rfl
theorem AppendSeq_in (Bn s : Nat) (hs : s < 18446744073709551616) (w : World) (hBn : Bn < w.heap.size) (hc : w.cell? ⟨Bn, 0, none⟩ = some (.int .u64 s)) (hT : TabAt 1 Go.Lib.deBruijn64tab w) :
 CallsIn Fence.wide 4 Tryz.prog 186 #[.slice none 0 0, .func (.func 173) #[] #[.pointer (some ⟨Bn, 0, none⟩)]] w fun e W' => ∃ v, e = .returned v ∧ W'.ownsRow w.heap.size 3 1 v (objs s).length ((objs s).map (Value.int .i64)) ∧ Below w.heap.size w W' := by
 obtain ⟨i0, hi, hz0, hz1, hz2⟩ := info_parts info3; have hTl := tab_lt hT; refine callsIn_of_wp_marks Tryz.func186 rfl trivial ?_ rfl; simp only [Tryz.ntmps186, List.size_toArray, List.length_cons, List.length_nil, Nat.reduceAdd, Nat.reduceSub, Array.replicate_succ, Array.replicate_zero, List.push_toArray, List.append_toArray, List.nil_append, List.cons_append]; gi_wp2
 have bO := Boxed.new w 67 (.slice none 0 0); have hB0 : Below w.heap.size w (w.alloc (.cells #[.slice none 0 0] 67)) := (Below.refl _ w).alloc (Nat.le_refl _) _; refine wpIn_rangeFunc_ownG rfl (by decide) (gf := 173) (lb := #[.pointer (some ⟨Bn, 0, none⟩)]) rfl trivial (enters_of Tryz.func173 (by kernel_rfl) rfl)
  (iter_stops (4 - 1) (by decide) Bn w.heap.size s hs _ (by simp; omega) (by simp) ((hB0.cell (p := ⟨Bn, 0, none⟩) hBn).trans hc) (tab_below hT hTl hB0) hTl) belowK_t (belowK_b (by simp)) (Below.refl _ _) (fun _ => rfl)
  (fun pre W => (∃ v, Boxed W w.heap.size 67 v ∧ W.ownsRow w.heap.size 3 1 v pre.length ((vals pre).map (Value.int .i64)) ∧ True) ∧ Below w.heap.size w W)
  (fun _ _ _ => False)
  (OwnFrom.and (Own.from (holdsRow_own w.heap.size w.heap.size 67 3 1 (fun pre => pre.length) (fun pre => (vals pre).map (Value.int .i64)) (fun pre v => True)) _) (ownFrom_below (Nat.le_refl _) (by simp)))
  (fun _ _ _ _ _ hs _ _ => hs)
  ⟨⟨_, bO, World.ownsRow_nil _ _ _ _, trivial⟩, hB0⟩
  (fun x => { tmps := #[.slice none 0 0, .func (.func 173) #[] #[.pointer (some ⟨Bn, 0, none⟩)], .pointer (some ⟨w.heap.size, 0, none⟩), undef, .slice none 0 0, .int .i64 x.1, .func (.func 173) #[] #[.pointer (some ⟨Bn, 0, none⟩)], .int .i64 x.1, undef, undef, undef, undef, undef], defers := [] }) ?assign ?body ?done ?stop
 case assign =>
  intro l x W K hK; gi_wp2
  exact hK
 case body =>
  rintro l pre x W ⟨⟨v, hv, hrow, -⟩, hB⟩ hlt; have hc := hv.cell; gi_wp2_with (gi_at_builtin; refine wpListIn_append_own _ rfl _ _ 67 rfl w.heap.size 3 i0 (.int .i64 0) 1 8 Tryz.underlying67 hi hz0 hz1 hz2 rfl (by decide) _ _ _ rfl (hrow.alloc _) ⟨W.heap.size, 0, none⟩ 1 1 [.int .i64 x.1] rfl rfl (cell_one_new _ _ _) (by simp [Value.oneCell']) (by simp only [maxLen]; omega) (by omega) (by have := hB.size; simp; omega) ?_; intro v' w1 hown' hgrow _; obtain ⟨g', cap', rfl⟩ := ownsRow_succ hown'; obtain ⟨hv1, hv2, hr2, hk2, hb2⟩ := hv.appended (by decide) hrow hB.size (Nat.le_refl _) hown' hgrow; have hc1 := hv1.cell; have hf1 := hv1.frozen)
  exact ⟨hk2.from _, hb2, ⟨_, hv2, by rw [vals_snoc]; simpa using hr2, trivial⟩, hB.trans hb2⟩
 case done =>
  rintro D ys W hD hys ⟨⟨v, hv, hrow, -⟩, hB⟩ hK; have hc := hv.cell; rw [← vals_len, hys] at hrow; clear hys; gi_wp2
  refine ⟨by simp, .inl ⟨_, _, rfl, run_takeDeferred hK, ?_⟩⟩; refine ⟨_, results_tmp rfl _ _ _, v, rfl, ownsRow_putObj hrow _ hK rfl, hB.trans (belowK_b (w := w) (Nat.le_refl _) W D _ _ (by simp at hD; omega) hK rfl rfl)⟩
 case stop =>
  rintro D c pre W _ _ h _; exact h.elim
theorem Collect_any (Bn s : Nat) (hs : s < 18446744073709551616) (w : World) (hBn : Bn < w.heap.size) (hc : w.cell? ⟨Bn, 0, none⟩ = some (.int .u64 s)) (hT : TabAt 1 Go.Lib.deBruijn64tab w) :
 Calls Tryz.prog 169 #[.func (.func 173) #[] #[.pointer (some ⟨Bn, 0, none⟩)]] w fun e W' => ∃ v, e = .returned v ∧ W'.ownsRow w.heap.size 3 1 v (objs s).length ((objs s).flatMap ic) ∧ Below w.heap.size w W' := by
 have hA := Go.Lib.hid ((callsIn_wide (n := 4)).1 (AppendSeq_in Bn s hs w hBn hc hT)); clear hc hT; go_enter Tryz.func169, Tryz.ntmps169
 go_wp2_with fail
 refine hA.out.mono ?_; rintro e w' ⟨v, rfl, hr, hb⟩; rw [ic_map] at hr; go_wp2; go_ret
 exact ⟨v, rfl, hr, hb⟩
theorem List_tab (s : Nat) (hs : s < 18446744073709551616) (w : World) (hE : EnvT w) :
 Calls Tryz.prog 135 #[.int .u64 s] w fun e W' => ∃ v, e = .returned v ∧ W'.ownsRow w.heap.size 3 1 v (objs s).length ((objs s).flatMap ic) ∧ Below w.heap.size w W' := by
 have hE1 := Go.Lib.hid (hE.alloc (.cells #[.int .u64 s] 26)).tab; clear hE; go_enter Tryz.func135, Tryz.ntmps135
 go_wp2_with fail
 refine (objects_any _ _).mono ?_; rintro e w' ⟨rfl, rfl⟩; go_wp2_with fail
 refine (Collect_any _ s hs _ (by simp) (by simp) hE1.out).mono ?_; rintro e w' ⟨v, rfl, hr, hb⟩; go_wp2; go_ret
 exact ⟨v, rfl, own_base hr (by simp), bcall1 (Below.refl _ _) hb⟩
attribute [local go_sem] Oper.semAt_some
theorem rowF_kept {W W' : World} {row : Option Nat} {B : Nat} {e : TypeId} {v : Value} {n : Nat} {xs : List Value} (h : W.ownsRowF B e 1 v n xs) (hg : W.grownBy W' row) (hr : ∀ r, row = some r → ∃ o : Obj, W.heap[r]? = some o ∧ o.isCells = false) : W'.ownsRowF B e 1 v n xs := by
 refine ⟨h.1, ?_⟩; rcases h.2 with h0 | ⟨g, cap, cur, fz, hv, hb, hh, hrest⟩
 · exact .inl h0
 · refine .inr ⟨g, cap, cur, fz, hv, hb, (hg.block g (Array.getElem?_eq_some_iff.1 hh).1 ?_).trans hh, hrest⟩
   intro e0; obtain ⟨o, ho, hc⟩ := hr g e0.symm; rw [hh] at ho; cases ho; cases hc
theorem builder_kept {W W' : World} {row : Option Nat} {T e : TypeId} {B b : Nat} {bs : List Value} (h : Lib.IsBuilderF T e B b bs W) (hg : W.grownBy W' row) (hr : ∀ r, row = some r → ∃ o : Obj, W.heap[r]? = some o ∧ o.isCells = false) : Lib.IsBuilderF T e B b bs W' := by
 have at_ : ∀ p, Lib.BuilderAtF T e B b p bs W → Lib.BuilderAtF T e B b p bs W' := fun p h => by
  obtain ⟨h1, v, h2, h3, h4⟩ := h; refine ⟨h1, v, (hg.block b (Array.getElem?_eq_some_iff.1 h2).1 ?_).trans h2, rowF_kept h3 hg hr, h4⟩; intro e0; obtain ⟨o, ho, hc⟩ := hr b e0.symm; rw [h2] at ho; cases ho; cases hc
 exact h.imp (at_ _) (at_ _)
theorem builder_cellsSt {W : World} {T e : TypeId} {B b : Nat} {bs : List Value} (h : Lib.IsBuilderF T e B b bs W) : ∃ cs, W.heap[b]? = some (.cells cs T (0, 0)) := by
 rcases h with ⟨_, v, h2, _⟩ | ⟨_, v, h2, _⟩ <;> exact ⟨_, h2⟩
theorem keeps_of_others {W W' : World} {T e : TypeId} {B b n : Nat} {bs : List Value} (h : Lib.IsBuilderF T e B b bs W) (hk : Lib.OthersKept e (some b) W W') (hs : W.heap.size ≤ W'.heap.size) : KeepsFrom n W W' :=
 ⟨hs, fun k o _ hk1 ho => hk k o hk1 (fun e0 => by
  cases e0
  obtain ⟨cs, hc⟩ := builder_cellsSt h; rw [hc] at hk1; cases hk1; cases ho) (fun c fz e0 => by subst e0; cases ho)⟩
theorem builder_alloc {W : World} {T e : TypeId} {B b : Nat} {bs : List Value} (h : Lib.IsBuilderF T e B b bs W) (o : Obj) : Lib.IsBuilderF T e B b bs (W.alloc o) :=
 builder_kept (row := none) h ⟨rfl, rfl, rfl, by simp, fun i hi _ => Below.heap_alloc _ _ _ hi⟩ (fun r h => by cases h)
theorem flat_le (l : List Int) : (l.flatMap fun o => 44 :: dig o).length ≤ 3 * l.length := by
 rw [tx_len]; induction l with
 | nil => simp
 | cons o l ih => rw [List.map_cons, List.sum_cons, List.length_cons]; split <;> omega
theorem text_le (l : List Int) : (textL l).length ≤ 3 * l.length := by
 cases l with
 | nil => simp [textL]
 | cons o l =>
   have := flat_le l; have h2 : (dig o).length ≤ 2 := by rw [dig_len]; split <;> omega
   rw [textL_cons, List.length_append, List.length_cons]; omega
theorem Text_in (s : Nat) (hs : s < 18446744073709551616) (hs0 : s ≠ 0) (w : World) (hE : Env w) :
 CallsIn Fence.wide 4 Tryz.prog 99 #[.int .u64 s] w fun e W' => e = .returned (.string ⟨(textL (objs s)).toArray⟩) ∧ Below w.heap.size w W' := by
 have hT := hE.tab; have hTl := tab_lt hT; have hT2 := Go.Lib.hid hT; clear hT hE; have hne : ((s : Int) == 0) = false := by rw [beq_eq_false_iff_ne]; omega
 refine callsIn_of_wp_marks Tryz.func99 rfl trivial ?_ rfl; simp only [Tryz.ntmps99, List.size_toArray, List.length_cons, List.length_nil, Nat.reduceAdd, Nat.reduceSub, Array.replicate_succ, Array.replicate_zero, List.push_toArray, List.append_toArray, List.nil_append, List.cons_append]; gi_wp2_with (refine ⟨trivial, ?_⟩; gi_at_call 143; refine (callsIn_wide.2 (objects_any _ _)).mono ?_; rintro e w' ⟨rfl, rfl⟩)
 have hB0 : Below w.heap.size w (w.alloc (.cells #[.pointer none, .slice none 0 0] 153)) := (Below.refl _ w).alloc (Nat.le_refl _) _; have hB1 : Below w.heap.size w ((w.alloc (.cells #[.pointer none, .slice none 0 0] 153)).alloc (.cells #[.int .u64 s] 26)) := hB0.alloc (by simp) _; have hI0 : Lib.IsBuilderF 153 5 w.heap.size w.heap.size (Lib.byteCells (textL (vals []))) ((w.alloc (.cells #[.pointer none, .slice none 0 0] 153)).alloc (.cells #[.int .u64 s] 26)) :=
  builder_alloc (Lib.IsBuilderF.of (Lib.fresh_isBuilder _ _ w)) _
 refine wpIn_rangeFunc_ownG rfl (by decide) (gf := 173) (lb := #[.pointer (some ⟨w.heap.size + 1, 0, none⟩)]) rfl trivial (enters_of Tryz.func173 (by kernel_rfl) rfl)
  (iter_stops (4 - 1) (by decide) (w.heap.size + 1) w.heap.size s hs _ (by simp) (by simp; omega) (by simp) (tab_below hT2.out hTl hB1) hTl) belowK_t (belowK_b (by simp; omega)) (Below.refl _ _) (fun _ => rfl)
  (fun pre W => Lib.IsBuilderF 153 5 w.heap.size w.heap.size (Lib.byteCells (textL (vals pre))) W ∧ Below w.heap.size w W)
  (fun _ _ _ => False)
  (OwnFrom.and (fun pre A B row h hg hr => builder_kept h hg (fun r e => (hr r e).2)) (ownFrom_below (Nat.le_refl _) (by simp; omega)))
  (fun _ _ _ _ _ hs _ _ => hs)
  ⟨hI0, hB1⟩
  (fun x => { tmps := #[.int .u64 s, undef, .string ⟨#[]⟩, .pointer (some ⟨w.heap.size, 0, none⟩), .int .i64 x.1, .int .u64 s, .bool false, .int .u64 s, .func (.func 173) #[] #[.pointer (some ⟨w.heap.size + 1, 0, none⟩)], .int .i64 x.1, undef, undef, undef, undef, undef, undef, undef], defers := [] }) ?assign ?body ?done ?stop
 case assign =>
  intro l x W K hK; gi_wp2
  exact hK
 case body =>
  rintro l pre x W ⟨hI, hB⟩ hlt; have hxr := x.2; obtain ⟨x, hx1, hx2⟩ := x; obtain ⟨m, rfl⟩ : ∃ m : Nat, x = m := ⟨x.toNat, by omega⟩; dsimp only at *; have hItoa := Go.Lib.hid (Tryz.strconv_Itoa_small m (by omega)); rw [dig_dec m (by omega)] at hItoa; have hlen : (textL (vals pre)).length ≤ 192 := by have := text_le (vals pre); rw [vals_len] at this; omega
  have hdl : (dig (m : Int)).length ≤ 2 := by rw [dig_len]; split <;> omega
  have hsz := hB.size; have hBC := Lib.byteCells_length (textL (vals pre)); have hLen := Tryz.Builder_Len_f w.heap.size w.heap.size _ W hI; rw [hBC] at hLen; have hsn : textL (vals (pre ++ [⟨(m : Int), hx1, hx2⟩])) = txStep (textL (vals pre)) (m : Int) := by rw [vals_snoc, textL_snoc]
  by_cases hp : textL (vals pre) = []
  · have hL0 : Calls Tryz.prog 144 #[.pointer (some ⟨w.heap.size, 0, none⟩)] W fun e w' => e = .returned (.int .i64 0) ∧ w' = W := hLen.mono fun e w' ⟨he, hw⟩ => ⟨by rw [he, hp]; rfl, hw⟩
    have hL1 := Go.Lib.hid hL0; rw [hp] at hI; have hW1 := Go.Lib.hid (Builder_WriteString_k w.heap.size w.heap.size _ ⟨(dig (m : Int)).toArray⟩ W hI (by rw [Lib.byteCells_length, ba_size]; simp; omega) hsz); rw [hp] at hsn; have HS := Go.Lib.hid hsn; clear hLen hL0 hsn hp hBC; gi_wp2_with (first
     | (refine ⟨trivial, ?_⟩; gi_at_call 144; refine (CallsIn.inRound l (callsIn_wide.2 hL1.out)).mono ?_; rintro e w' ⟨rfl, rfl⟩)
     | (refine ⟨trivial, ?_⟩; gi_at_call 145; refine (CallsIn.inRound l (callsIn_wide.2 (hItoa.out _))).mono ?_; rintro e w' ⟨rfl, rfl⟩)
     | (refine ⟨trivial, ?_⟩; gi_at_call 95; refine (CallsIn.inRound l (callsIn_wide.2 hW1.out)).mono ?_; rintro e w2 ⟨rfl, hb2, hB2, hk2⟩))
    refine ⟨keeps_of_others hI hk2 hB2.size, hB2, ?_, hB.trans hB2⟩; rw [HS.out, txStep, if_pos rfl]; exact .inr hb2
  · have hk0 : 0 < (textL (vals pre)).length := List.length_pos_iff.2 hp
    generalize hk : (textL (vals pre)).length = k at hLen hlen hk0; have hL1 := Go.Lib.hid hLen; have hW1 := Go.Lib.hid (Builder_WriteString_k w.heap.size w.heap.size _ ⟨#[44]⟩ W hI (by rw [Lib.byteCells_length, hk]; show k + 1 ≤ _; omega) hsz); have HS := Go.Lib.hid hsn; have HP := Go.Lib.hid hp; have HK := Go.Lib.hid hk; clear hLen hsn hp hBC hk; gi_wp2_with (first
     | (refine ⟨trivial, ?_⟩; gi_at_call 144; refine (CallsIn.inRound l (callsIn_wide.2 hL1.out)).mono ?_; rintro e w' ⟨rfl, rfl⟩)
     | (refine ⟨trivial, ?_⟩; gi_at_call 95; refine (CallsIn.inRound l (callsIn_wide.2 hW1.out)).mono ?_; clear hW1; rintro e w2 ⟨rfl, hb2, hB2, hk2⟩))
    have hsz2 : w.heap.size ≤ w2.heap.size := Nat.le_trans hsz hB2.size; have hW2 := Go.Lib.hid (Builder_WriteString_k w.heap.size w.heap.size _ ⟨(dig (m : Int)).toArray⟩ w2 (.inr hb2) (by have hds := ba_size (dig (m : Int)); rw [List.length_append, Lib.byteCells_length, HK.out, Lib.strCells_length]; show k + 1 + _ ≤ _; omega) hsz2); gi_wp2_with (first
     | (refine ⟨trivial, ?_⟩; gi_at_call 145; refine (CallsIn.inRound l (callsIn_wide.2 (hItoa.out _))).mono ?_; rintro e w' ⟨rfl, rfl⟩)
     | (refine ⟨trivial, ?_⟩; gi_at_call 95; refine (CallsIn.inRound l (callsIn_wide.2 hW2.out)).mono ?_; rintro e w3 ⟨rfl, hb3, hB3, hk3⟩))
    refine ⟨(keeps_of_others hI hk2 hB2.size).trans (keeps_of_others (.inr hb2) hk3 hB3.size), hB2.trans hB3, ?_, (hB.trans hB2).trans hB3⟩; rw [HS.out, txStep, if_neg HP.out, Lib.byteCells_append, Lib.byteCells_append]; exact .inr hb3
 case done =>
  rintro D ys W hD hys ⟨hI, hB⟩ hK; rw [hys] at hI; clear hys; have hsz := hB.size; gi_wp2_with (refine ⟨trivial, ?_⟩; gi_at_call 103; refine (callsIn_wide.2 (Tryz.Builder_String_any_k w.heap.size w.heap.size _ _ hI hsz)).mono ?_; rintro e w' ⟨rfl, hI2, hb2, hk2⟩)
  have hK2 := hk2 D _ hK (by intro e0; injection e0 with e0; simp at hD; omega) (by intro c fz e0; cases e0); refine ⟨by simp, .inl ⟨_, _, rfl, run_takeDeferred hK2, ?_⟩⟩; exact ⟨_, results_tmp rfl _ _ _, rfl, (hB.trans hb2).trans (belowK_b (w := w) (Nat.le_refl _) w' D _ _ (by simp at hD; omega) hK2 rfl rfl)⟩
 case stop =>
  rintro D c pre W _ _ h _; exact h.elim
theorem Text_anySt (s : Nat) (hs : s < 18446744073709551616) (w : World) (hE : Env w) :
 Calls Tryz.prog 99 #[.int .u64 s] w fun e W' => e = .returned (.string ⟨(textF s).toArray⟩) ∧ Below w.heap.size w W' := by
 by_cases h0 : s = 0
 · subst h0
   go_enter Tryz.func99, Tryz.ntmps99
   go_wp2; go_ret
   exact ⟨rfl, Below.refl _ _⟩
 · have := (callsIn_wide (n := 4)).1 (Text_in s hs h0 w hE)
   unfold textF; rw [if_neg h0]; exact this
theorem Of_anySt (v : Value) (l : List Int) (w : World) (hl : Ints w v l) (hr : ∀ o ∈ l, -9223372036854775808 ≤ o ∧ o ≤ 9223372036854775807) :
 Calls Tryz.prog 58 #[v] w fun e w' => e = .returned (.int .u64 (ofF l : Nat)) ∧ w' = w := by
 have hl' := hl; obtain ⟨A, c, rfl, h1, h2, -⟩ := hl'; unfold maxLen at h2; have HL := hide hl; have HR := hide hr; clear hl hr; go_enter Tryz.func58, Tryz.ntmps58
 go_wp2; go_loop [3, 8] (fun s i => ∃ k : Nat, k ≤ l.length ∧ i = .int .i64 k ∧ s = .int .u64 (ofF (l.take k) : Nat)) (fun _ i => l.length - (intOf i).toNat)
 case atStart => exact ⟨0, Nat.zero_le _, rfl, rfl⟩
 case round =>
  obtain ⟨k, hk, rfl, rfl⟩ := hrel; by_cases hlt : k < l.length
  · obtain ⟨b, off, rfl, -, hc⟩ := ints_at HL.out hlt
    have hb := HR.out _ (List.getElem_mem hlt); have HS := hide (ofF_snoc l k hlt); have hlo := ofF_lt (l.take k); generalize l[k] = o at *; go_wp2_with (go_at_call 45; refine (Add_any _ _ _ hlo hb.1 hb.2).mono ?_; rintro e w' ⟨rfl, rfl⟩)
    go_round
    case rel => exact ⟨k + 1, by omega, by go_num, by rw [HS.out]⟩
    case measure => simp [intOf]; omega
  · go_wp2
    go_ret
    refine ⟨ret_u64 ?_, rfl⟩; rw [List.take_of_length_le (by omega)]
theorem Atoi_okSt (s : ByteArray) (hs : s.size ≤ 281474976710656) (v : Int) (h : Go.Lib.atoiAll s.data.toList = .ok v) (w : World) :
 Calls Tryz.prog 179 #[.string s] w fun e w' => e = .returned (.tuple #[.int .i64 v, .nilIface]) ∧ Below w.heap.size w w' :=
 (Tryz.strconv_Atoi_ok s (by omega) v h w).mono fun e w' ⟨he, hw⟩ => ⟨he, by
  rcases hw with rfl | ⟨t, rfl⟩
  · exact Below.refl _ _
  · exact Lib.bytesWorld_below _ _ _⟩
theorem Atoi_badSt (s : ByteArray) (hs : s.size ≤ 281474976710656) (h : ∀ v, Go.Lib.atoiAll s.data.toList ≠ .ok v) (w : World) (hE : Env w) :
 Calls Tryz.prog 179 #[.string s] w fun e w' => ∃ (n : Int) (N : Nat), e = .returned (.tuple #[.int .i64 n, .iface 271 (.pointer (some ⟨N, 0, none⟩))]) ∧ Below w.heap.size w w' := by
 obtain ⟨-, ⟨te, pe, h2⟩, ⟨tr, pr, h3⟩, -⟩ := hE; rcases ha : Go.Lib.atoiAll s.data.toList with v | _ | _
 · exact absurd ha (h v)
 · exact (Any.strconv_Atoi_syntax Tryz.laysC172 s hs ha _ w h2 (.inr ⟨_, _, rfl⟩)).mono fun e w' ⟨N, he, _, _, hb⟩ => ⟨0, N, he, hb⟩
 · exact (Any.strconv_Atoi_range Tryz.laysC172 s hs ha _ w h3 (.inr ⟨_, _, rfl⟩)).mono fun e w' ⟨N, he, _, _, hb⟩ => ⟨_, N, he, hb⟩
def pieces (t : ByteArray) : List ByteArray := Go.Lib.splitB ⟨#[44]⟩ 0 (Go.Lib.countB t ⟨#[44]⟩) t
theorem pieces_cut (t : ByteArray) : (pieces t).map (·.data.toList) = cut 44 t.data.toList := by
 unfold pieces; rw [Go.Lib.splitB_data]; exact splitK_cut 44 t.data.toList
theorem pieces_len (t : ByteArray) : (pieces t).length = Go.Lib.countB t ⟨#[44]⟩ + 1 := Go.Lib.splitB_all _ (by decide) 0 _ t rfl
theorem cut_size (c : UInt8) : ∀ (t : List UInt8) (p : List UInt8), p ∈ cut c t → p.length ≤ t.length
 | [], p, h => by simp [cut] at h; subst h; simp
 | b :: l, p, h => by
   rw [cut] at h; have ih := cut_size c l; split at h
   · rcases List.mem_cons.1 h with rfl | h
     · simp
     · have := ih p h; simp; omega
   · split at h
     · rename_i e; exact absurd e (cut_ne c l)
     · rename_i q r e
       rcases List.mem_cons.1 h with rfl | h
       · have := ih q (by rw [e]; exact List.mem_cons_self ..); simp; omega
       · have := ih p (by rw [e]; exact List.mem_cons_of_mem _ h); simp; omega
theorem piece_size {t p : ByteArray} (h : p ∈ pieces t) : p.size ≤ t.size := by
 have h1 : p.data.toList ∈ cut 44 t.data.toList := by rw [← pieces_cut]; exact List.mem_map_of_mem h
 have := cut_size 44 _ _ h1; simpa using this
def numsBSt (P : List ByteArray) : List Int := P.map fun p => atoi0 p.data.toList
theorem nums_pieces (t : ByteArray) : numsBSt (pieces t) = numsF t.data.toList := by
 unfold numsBSt numsF; rw [← pieces_cut, List.map_map]; rfl
theorem Split_any (t : ByteArray) (w : World) (ht : t.size < 4294967281) (hE : Env w) :
 Calls Tryz.prog 184 #[.string t, .string ⟨#[44]⟩] w fun e w' => e = .returned (.slice (some ⟨w.heap.size, 0, none⟩) (pieces t).length (pieces t).length) ∧ w' = w.alloc (.cells ((pieces t).map Value.string).toArray 9) := by
 obtain ⟨-, -, -, ⟨m, hm⟩⟩ := hE; rw [pieces_len]; exact Tryz.strings_Split t ⟨#[44]⟩ m w ht hm (by decide)
theorem numsB_snoc (P : List ByteArray) (k : Nat) (h : k < P.length) : numsBSt (P.take (k + 1)) = numsBSt (P.take k) ++ [atoi0 (P[k]).data.toList] := by
 unfold numsBSt; rw [List.take_succ_eq_append_getElem h, List.map_append]; rfl
theorem numbers_any (t : ByteArray) (w : World) (ht : t.size < 4294967281) (hE : Env w) :
 Calls Tryz.prog 160 #[.string t] w fun e w' => ∃ v, e = .returned v ∧ w'.ownsRow w.heap.size 3 1 v (numsF t.data.toList).length ((numsF t.data.toList).flatMap ic) ∧ Below w.heap.size w w' := by
 obtain ⟨i0, hi, hz0, hz1, hz2⟩ := info_parts info3; have hSp := hide (Split_any t w ht hE); obtain ⟨P, hP⟩ : ∃ P, pieces t = P := ⟨_, rfl⟩; rw [hP] at hSp; have hnum : numsBSt P = numsF t.data.toList := by rw [← hP]; exact nums_pieces t
 have hPl : P.length ≤ t.size + 1 := by rw [← hP, pieces_len]; have := Go.Lib.countB_le ⟨#[44]⟩ (by decide) t.size t (Nat.le_refl _); omega
 have hsz : ∀ p ∈ P, p.size ≤ t.size := fun p hp => piece_size (by rw [hP]; exact hp)
 have HN := hide hnum; have HZ := hide hsz; have HE := hide hE; clear hP hnum hsz hE; go_enter Tryz.func160, Tryz.ntmps160
 go_wp2_with fail
 refine hSp.out.mono ?_; rintro e w1 ⟨rfl, hw1⟩; have hb1 : Below w.heap.size w w1 := by rw [hw1]; exact (Below.refl _ _).alloc (Nat.le_refl _) _
 have hs1 : w1.heap.size = w.heap.size + 1 := by rw [hw1]; simp
 have hc1 : ∀ k, (h : k < P.length) → w1.cell? ⟨w.heap.size, k, none⟩ = some (.string P[k]) := fun k h => by
  have := row_new w (P.map Value.string) 9 k (.string P[k]) (by simp [h]); rw [hw1]; rw [add_none, Nat.zero_add] at this; exact this
 have HC := hide hc1; have HS1 := hide hs1; have HE1 := hide (HE.out.below hb1); have hlt1 : w.heap.size < w1.heap.size := by omega
 clear hw1 hc1 hs1; go_wp2; go_loopw [3, 11] (fun v i wr => ∃ k : Nat, k ≤ P.length ∧ i = .int .i64 k ∧ wr.ownsRow w1.heap.size 3 1 v k ((numsBSt (P.take k)).flatMap ic) ∧ Below w1.heap.size w1 wr) (fun _ i _ => P.length - (intOf i).toNat)
 case atStart => exact ⟨0, Nat.zero_le _, rfl, World.ownsRow_nil _ _ _ _, Below.refl _ _⟩
 case round =>
  obtain ⟨k, hk, rfl, hown, hb⟩ := hrel; obtain ⟨A, cp, rfl, hcp, hcm⟩ := own_form hown; have hsz := hb.size; by_cases hlt : k < P.length
  · have hcell : wr.cell? ⟨w.heap.size, k, none⟩ = some (.string P[k]) := (hb.cell (p := ⟨w.heap.size, k, none⟩) hlt1).trans (HC.out k hlt)
    have hps := HZ.out _ (List.getElem_mem hlt); have HS := hide (numsB_snoc P k hlt); have hEr := HE1.out.below hb; generalize P[k] = p at *; by_cases hok : ∃ v, Go.Lib.atoiAll p.data.toList = .ok v
    · obtain ⟨v, hv⟩ := hok
      have hA := hide (Atoi_okSt p (by omega) v hv); have hv0 := hide (show atoi0 p.data.toList = v by unfold atoi0; rw [hv]); clear hv hEr; go_wp2_with (first
       | (go_at_call 179; refine (hA.out _).mono ?_; rintro e w2 ⟨rfl, hb2⟩; have hsz2 := hb2.size)
       | (at_builtin; refine wpList_append_own _ rfl _ _ 67 rfl w1.heap.size 3 i0 (.int .i64 0) 1 8 Tryz.underlying67 hi hz0 hz1 hz2 rfl (by decide) _ _ _ rfl ((own_below hown hb2).alloc _) ⟨_, 0, none⟩ 1 1 [.int .i64 v] rfl rfl (row_at _ _ _ (by simp)) (by simp [Value.oneCell']) (by simp only [maxLen]; omega) (by omega) (by simp; omega) ?_; intro v' w3 hown' hgrow _))
      go_roundw
      case rel => exact ⟨k + 1, by omega, by go_num, by rw [HS.out, hv0.out, List.flatMap_append]; exact hown', ((hb.trans (hb2.mono hsz)).alloc (by omega) _).grown hgrow (by simp; omega) (own_ge hown)⟩
      case measure => simp [intOf]; omega
    · have hA := hide (Atoi_badSt p (by omega) (fun v h => hok ⟨v, h⟩) wr hEr)
      have hv0 := hide (show atoi0 p.data.toList = 0 by
       unfold atoi0; split
       · rename_i v h; exact absurd ⟨v, h⟩ hok
       · rfl)
      clear hok hEr; go_wp2_with (first
       | (go_at_call 179; refine hA.out.mono ?_; rintro e w2 ⟨n, N, rfl, hb2⟩; have hsz2 := hb2.size)
       | (at_builtin; refine wpList_append_own _ rfl _ _ 67 rfl w1.heap.size 3 i0 (.int .i64 0) 1 8 Tryz.underlying67 hi hz0 hz1 hz2 rfl (by decide) _ _ _ rfl ((own_below hown hb2).alloc _) ⟨_, 0, none⟩ 1 1 [.int .i64 0] rfl rfl (row_at _ _ _ (by simp)) (by simp [Value.oneCell']) (by simp only [maxLen]; omega) (by omega) (by simp; omega) ?_; intro v' w3 hown' hgrow _))
      go_roundw
      case rel => exact ⟨k + 1, by omega, by go_num, by rw [HS.out, hv0.out, List.flatMap_append]; exact hown', ((hb.trans (hb2.mono hsz)).alloc (by omega) _).grown hgrow (by simp; omega) (own_ge hown)⟩
      case measure => simp [intOf]; omega
  · go_wp2
    go_ret
    have hkk : k = P.length := by omega
    refine ⟨_, rfl, ?_, bcall hb1 hb⟩; rw [hkk, List.take_length, HN.out] at hown; have hln : P.length = (numsF t.data.toList).length := by rw [← HN.out]; simp [numsBSt]
    rw [hkk, hln]; rw [hln] at hown; exact own_base hown (by omega)
theorem atoi0_rng (p : List UInt8) : -9223372036854775808 ≤ atoi0 p ∧ atoi0 p ≤ 9223372036854775807 := by
 unfold atoi0; split
 · rename_i v h; exact Go.Lib.atoiAll_bounds h
 · omega
theorem nums_rng (t : List UInt8) : ∀ o ∈ numsF t, -9223372036854775808 ≤ o ∧ o ≤ 9223372036854775807 := by
 intro o ho; obtain ⟨p, _, rfl⟩ := List.mem_map.1 ho; exact atoi0_rng p
theorem Parse_anySt (t : ByteArray) (w : World) (ht : t.size ≤ 9223372036854775807) (hE : Env w) :
 Calls Tryz.prog 117 #[.string t] w fun e w' => e = .returned (.tuple #[.int .u64 ((parseFSt t.data.toList).1 : Nat), .int .i64 (parseFSt t.data.toList).2]) ∧ Below w.heap.size w w' := by
 obtain ⟨F, hF, hFs⟩ : ∃ F : ByteArray, (⟨(textF (firstF 64)).toArray⟩ : ByteArray) = F ∧ F.size = 182 := ⟨_, rfl, by rw [ba_size]; exact full_text⟩; have htl : t.data.toList.length = t.size := by rw [Array.length_toList]; rfl
 have HF := hide hF; have HE := hide hE; clear hF hE; by_cases h : F.size < t.size
 · have hP := hide (show parseFSt t.data.toList = (0, 2) by unfold parseFSt; rw [if_pos (by rw [htl]; omega)])
   have hd : decide (F.size < t.size) = true := decide_eq_true h; clear htl hFs; go_enter Tryz.func117, Tryz.ntmps117
   go_wp2_with fail
   refine (First_any _ _ (by omega) (by omega)).mono ?_; rintro e w1 ⟨rfl, rfl⟩; go_wp2_with fail
   refine (Text_anySt _ (first_lt _) _ HE.out).mono ?_; rintro e w1 ⟨rfl, hb⟩; rw [HF.out]; go_wp2; go_ret2
   exact ⟨by rw [hP.out]; rfl, hb⟩
 · have hd : decide (F.size < t.size) = false := decide_eq_false h
   have hN := hide (numbers_any t); have hlt := ofF_lt (numsF t.data.toList); generalize hS : ofF (numsF t.data.toList) = s at hlt; have HS := hide hS; have ht1 : t.size < 4294967281 := by omega
   have hP := hide (show parseFSt t.data.toList = if textF s = t.data.toList then (s, 0) else (0, 2) by rw [← hS]; unfold parseFSt; rw [if_neg (by rw [htl]; omega)]); clear htl hFs hS; go_enter Tryz.func117, Tryz.ntmps117
   go_wp2_with fail
   refine (First_any _ _ (by omega) (by omega)).mono ?_; rintro e w1 ⟨rfl, rfl⟩; go_wp2_with fail
   refine (Text_anySt _ (first_lt _) _ HE.out).mono ?_; rintro e w2 ⟨rfl, hb2⟩; rw [HF.out]; have HE2 := hide (HE.out.below hb2); go_wp2_with fail
   (with_reducible refine (hN.out _ ht1 HE2.out).mono ?_); rintro e w3 ⟨v, rfl, ho3, hb3⟩; have hb := bcall hb2 hb3; have HE3 := hide (HE2.out.below hb3); have hI := hide (show Ints w3 v (numsF t.data.toList) from Sl.of_own ic_len ho3); clear ho3; go_wp2_with fail
   refine (Of_anySt _ _ _ hI.out (nums_rng _)).mono ?_; rintro e w4 ⟨rfl, rfl⟩; rw [HS.out]; go_wp2_with fail
   (with_reducible refine (Text_anySt s hlt _ HE3.out).mono ?_); rintro e w5 ⟨rfl, hb5⟩; have hb := bcall hb hb5; by_cases heq : textF s = t.data.toList
   · have hte : (⟨(textF s).toArray⟩ : ByteArray) = t := by rw [heq]
     rw [hte]; have HP2 := hide (hP.out.trans (if_pos heq)); clear hP heq hte; go_wp2; go_ret2
     exact ⟨by rw [HP2.out]; rfl, hb⟩
   · have HP2 := hide (hP.out.trans (if_neg heq))
     obtain ⟨T, hT⟩ : ∃ T : ByteArray, (⟨(textF s).toArray⟩ : ByteArray) = T := ⟨_, rfl⟩; have hne : (T.toList == t.toList) = false := by rw [beq_eq_false_iff_ne, ← hT, ByteArray.toList_eq, ByteArray.toList_eq]; simpa using heq
     rw [hT]; clear hP heq hT; go_wp2; go_ret2
     exact ⟨by rw [HP2.out]; rfl, hb⟩
theorem bit_div (s i : Nat) : ((s : Int) / 2 ^ i % 2 == 1) = s.testBit i := by
 have e : (s : Int) / 2 ^ i % 2 = ((s / 2 ^ i % 2 : Nat) : Int) := by simp
 rw [e, Nat.testBit_eq_decide_div_mod_eq, Bool.eq_iff_iff, beq_iff_eq, decide_eq_true_eq]; omega
theorem rHas_any (s : Nat) (o : Int) (w : World) (hs : s < 18446744073709551616) (h0 : -9223372036854775808 ≤ o) (h1 : o ≤ 9223372036854775807) :
 Calls Tryz.prog 149 #[.int .u64 s, .int .i64 o] w fun e w' => e = .returned (.bool (hasF s o)) ∧ w' = w := by
 rcases (show o < 1 ∨ (1 ≤ o ∧ o ≤ 64) ∨ (1 ≤ o ∧ 64 < o) by omega) with h | ⟨ha, hb⟩ | ⟨ha, hb⟩
 · have hn := hide (has_no s o (by omega))
   have q : decide (o ≥ 1) = false := by simp; omega
   go_enter Tryz.func149, Tryz.ntmps149
   go_wp2; go_ret
   exact ⟨ret_bool (by rw [hn.out]), rfl⟩
 · have q : decide (o ≥ 1) = true := by simp; omega
   have q2 : decide (o ≤ 64) = true := by simp; omega
   go_enter Tryz.func149, Tryz.ntmps149
   go_wp2; go_ret
   refine ⟨ret_bool ?_, rfl⟩; obtain ⟨i, rfl⟩ : ∃ i : Nat, o = (i : Int) + 1 := ⟨(o - 1).toNat, by omega⟩; rw [show (((i : Int) + 1).toNat - 1) = i by omega, Int.tmod_eq_emod_of_nonneg (Int.ediv_nonneg (by omega) (by exact Int.le_of_lt (Int.pow_pos (by decide)))), bit_div, has_bit _ _ (by omega)]
 · have hn := hide (has_no s o (by omega))
   have q : decide (o ≥ 1) = true := by simp; omega
   have q2 : decide (o ≤ 64) = false := by simp; omega
   go_enter Tryz.func149, Tryz.ntmps149
   go_wp2; go_ret
   exact ⟨ret_bool (by rw [hn.out]), rfl⟩
theorem rAdd_any (s : Nat) (o : Int) (w : World) (hs : s < 18446744073709551616) (h0 : -9223372036854775808 ≤ o) (h1 : o ≤ 9223372036854775807) :
 Calls Tryz.prog 77 #[.int .u64 s, .int .i64 o] w fun e w' => e = .returned (.int .u64 (addF s o : Nat)) ∧ w' = w := by
 have hz : ¬ (1 ≤ o ∧ o ≤ 64) → addF s o = s := fun h => by unfold addF onlyF; rw [if_neg h]; simp
 rcases (show o < 1 ∨ (1 ≤ o ∧ o ≤ 64) ∨ (1 ≤ o ∧ 64 < o) by omega) with h | ⟨ha, hb⟩ | ⟨ha, hb⟩
 · have hn := hide (hz (by omega))
   clear hz; have q : decide (o ≥ 1) = false := by simp; omega
   go_enter Tryz.func77, Tryz.ntmps77
   go_wp2; go_ret
   exact ⟨ret_u64 (by rw [hn.out]), rfl⟩
 · clear hz
   have q : decide (o ≥ 1) = true := by simp; omega
   have q2 : decide (o ≤ 64) = true := by simp; omega
   go_enter Tryz.func77, Tryz.ntmps77
   go_wp2; go_ret
   refine ⟨ret_u64 ?_, rfl⟩; have hk : (2 : Nat) ^ (o.toNat - 1) < 18446744073709551616 := by rw [← p64]; exact Nat.pow_lt_pow_right (by decide) (by omega)
   unfold addF onlyF; rw [if_pos ⟨ha, hb⟩, wrap_pow _ (by omega), bits_or_u64_nat _ _ hs hk, show (o - 1).toNat = o.toNat - 1 by omega]
 · have hn := hide (hz (by omega))
   clear hz; have q : decide (o ≥ 1) = true := by simp; omega
   have q2 : decide (o ≤ 64) = false := by simp; omega
   go_enter Tryz.func77, Tryz.ntmps77
   go_wp2; go_ret
   exact ⟨ret_u64 (by rw [hn.out]), rfl⟩
theorem rUnder_any (a b : Nat) (w : World) (ha : a < 18446744073709551616) (hb : b < 18446744073709551616) :
 Calls Tryz.prog 53 #[.int .u64 a, .int .u64 b] w fun e w' => e = .returned (.bool (underF a b)) ∧ w' = w := by
 have hB := Go.Lib.hid (bits_and_u64_nat a b ha hb); have hU := hide (under_eq ha hb); go_enter Tryz.func53, Tryz.ntmps53
 go_wp2; go_ret
 refine ⟨ret_bool ?_, rfl⟩; rw [hB.out, hU.out, Bool.eq_iff_iff, beq_iff_eq, decide_eq_true_eq]; omega
def pobjs (k s : Nat) : List Int := ((List.range k).filter fun i => s.testBit i).map fun (i : Nat) => (i : Int) + 1
theorem pobjs_yes (k s : Nat) (h : s.testBit k = true) : pobjs (k + 1) s = pobjs k s ++ [(k : Int) + 1] := by
 unfold pobjs; rw [List.range_succ, List.filter_append, List.map_append]; simp [h]
theorem pobjs_no (k s : Nat) (h : s.testBit k = false) : pobjs (k + 1) s = pobjs k s := by
 unfold pobjs; rw [List.range_succ, List.filter_append, List.map_append]; simp [h]
theorem pobjs_len (k s : Nat) : (pobjs k s).length ≤ k := by
 unfold pobjs; rw [List.length_map]; have := List.length_filter_le (fun i => s.testBit i) (List.range k); rwa [List.length_range] at this
theorem rList_any (s : Nat) (w : World) (hs : s < 18446744073709551616) :
 Calls Tryz.prog 105 #[.int .u64 s] w fun e w' => ∃ v, e = .returned v ∧ w'.ownsRow w.heap.size 3 1 v (objs s).length ((objs s).flatMap ic) ∧ Below w.heap.size w w' := by
 obtain ⟨i0, hi, hz0, hz1, hz2⟩ := info_parts info3; go_enter Tryz.func105, Tryz.ntmps105
 go_wp2; go_loopw [3, 4] (fun v i wr => ∃ k : Nat, k ≤ 64 ∧ i = .int .i64 ((k : Int) + 1) ∧ wr.ownsRow w.heap.size 3 1 v (pobjs k s).length ((pobjs k s).flatMap ic) ∧ Below w.heap.size w wr) (fun _ i _ => 65 - (intOf i).toNat)
 case atStart => exact ⟨0, by omega, rfl, World.ownsRow_nil _ _ _ _, Below.refl _ _⟩
 case round =>
  obtain ⟨k, hk, rfl, hown, hb⟩ := hrel; obtain ⟨A, cp, rfl, hcp, hcm⟩ := own_form hown; have hpl := pobjs_len k s; have hsz := hb.size; by_cases hlt : k < 64
  · have hH := rHas_any s ((k : Int) + 1) wr hs (by omega) (by omega)
    rw [has_bit _ _ hlt] at hH; cases hbit : s.testBit k
    · rw [hbit] at hH
      have HH := hide hH; have HS := hide (pobjs_no k s hbit); clear hH hbit; go_wp2_with (go_at_call 149; refine HH.out.mono ?_; rintro e w' ⟨rfl, rfl⟩)
      go_roundw
      case rel => exact ⟨k + 1, by omega, by go_num, by rw [HS.out]; exact hown, hb⟩
      case measure => simp [intOf]; omega
    · rw [hbit] at hH
      have HH := hide hH; have HS := hide (pobjs_yes k s hbit); clear hH hbit; go_wp2_with (first
       | (go_at_call 149; refine HH.out.mono ?_; rintro e w' ⟨rfl, rfl⟩)
       | (at_builtin; refine wpList_append_own _ rfl _ _ 67 rfl w.heap.size 3 i0 (.int .i64 0) 1 8 Tryz.underlying67 hi hz0 hz1 hz2 rfl (by decide) _ _ _ rfl (hown.alloc _) ⟨_, 0, none⟩ 1 1 [.int .i64 ((k : Int) + 1)] rfl rfl (row_at _ _ _ (by simp)) (by simp [Value.oneCell']) (by simp only [maxLen]; omega) (by omega) (by simp; omega) ?_; intro v' w3 hown' hgrow _))
      go_roundw
      case rel => exact ⟨k + 1, by omega, by go_num, by rw [HS.out, List.length_append, List.flatMap_append]; exact hown', (hb.alloc (by omega) _).grown hgrow (by simp; omega) (own_ge hown)⟩
      case measure => simp [intOf]; omega
  · have hkk : k = 64 := by omega
    subst hkk; go_wp2; go_ret
    exact ⟨_, rfl, hown, hb⟩
theorem rOf_anySt (v : Value) (l : List Int) (w : World) (hl : Ints w v l) (hr : ∀ o ∈ l, -9223372036854775808 ≤ o ∧ o ≤ 9223372036854775807) :
 Calls Tryz.prog 59 #[v] w fun e w' => e = .returned (.int .u64 (ofF l : Nat)) ∧ w' = w := by
 have hl' := hl; obtain ⟨A, c, rfl, h1, h2, -⟩ := hl'; unfold maxLen at h2; have HL := hide hl; have HR := hide hr; clear hl hr; go_enter Tryz.func59, Tryz.ntmps59
 go_wp2; go_loop [3, 4] (fun s i => ∃ k : Nat, k ≤ l.length ∧ i = .int .i64 k ∧ s = .int .u64 (ofF (l.take k) : Nat)) (fun _ i => l.length - (intOf i).toNat)
 case atStart => exact ⟨0, Nat.zero_le _, rfl, rfl⟩
 case round =>
  obtain ⟨k, hk, rfl, rfl⟩ := hrel; by_cases hlt : k < l.length
  · obtain ⟨b, off, rfl, -, hc⟩ := ints_at HL.out hlt
    have hb := HR.out _ (List.getElem_mem hlt); have HS := hide (ofF_snoc l k hlt); have hlo := ofF_lt (l.take k); generalize l[k] = o at *; go_wp2_with (go_at_call 77; refine (rAdd_any _ _ _ hlo hb.1 hb.2).mono ?_; rintro e w' ⟨rfl, rfl⟩)
    go_round
    case rel => exact ⟨k + 1, by omega, by go_num, by rw [HS.out]⟩
    case measure => simp [intOf]; omega
  · go_wp2
    go_ret
    refine ⟨ret_u64 ?_, rfl⟩; rw [List.take_of_length_le (by omega)]
theorem first_step (k : Nat) (h : k < 64) : firstF ((k : Int) + 1) = addF (firstF k) ((k : Int) + 1) :=
 set_ext (first_lt _) (add_lt (first_lt _) _) fun i hi => by
  rw [first_bit, testBit_add, first_bit, Bool.eq_iff_iff]; simp only [Bool.or_eq_true, decide_eq_true_eq]; omega
theorem first_zero (n : Int) (h : n < 1) : firstF n = 0 := by unfold firstF; rw [show (min (max n 0) 64).toNat = 0 by omega]
theorem first_big (n : Int) (h : 64 ≤ n) : firstF n = firstF 64 := by unfold firstF; rw [show (min (max n 0) 64).toNat = 64 by omega]; rfl
theorem rFirst_any (n : Int) (w : World) (h0 : -9223372036854775808 ≤ n) (h1 : n ≤ 9223372036854775807) :
 Calls Tryz.prog 54 #[.int .i64 n] w fun e w' => e = .returned (.int .u64 (firstF n : Nat)) ∧ w' = w := by
 go_enter Tryz.func54, Tryz.ntmps54
 go_wp2; go_loop [3, 4] (fun s i => ∃ k : Nat, k ≤ 64 ∧ (k : Int) ≤ max n 0 ∧ i = .int .i64 ((k : Int) + 1) ∧ s = .int .u64 (firstF k : Nat)) (fun _ i => 65 - (intOf i).toNat)
 case atStart => exact ⟨0, by omega, by omega, rfl, rfl⟩
 case round =>
  obtain ⟨k, hk, hkn, rfl, rfl⟩ := hrel; have hlo := first_lt k; by_cases hlt : (k : Int) + 1 ≤ n ∧ k < 64
  · obtain ⟨hn, hk64⟩ := hlt
    have HS := hide (first_step k hk64); have q1 : decide ((k : Int) + 1 ≤ n) = true := decide_eq_true hn; have q2 : decide ((k : Int) + 1 ≤ 64) = true := decide_eq_true (by omega); go_wp2_with (go_at_call 77; refine (rAdd_any _ _ _ hlo (by omega) (by omega)).mono ?_; rintro e w' ⟨rfl, rfl⟩)
    go_round
    case rel => exact ⟨k + 1, by omega, by omega, by go_num, by rw [show (((k + 1 : Nat) : Int)) = (k : Int) + 1 by omega, HS.out]⟩
    case measure => simp [intOf]; omega
  · have HF := hide (show firstF k = firstF n by
     by_cases hk64 : k = 64
     · subst hk64; exact (first_big n (by omega)).symm
     · by_cases hn : n < 1
       · rw [first_zero n hn, show k = 0 by omega]; rfl
       · rw [show n = (k : Int) by omega])
    rcases (show n < (k : Int) + 1 ∨ ((k : Int) + 1 ≤ n ∧ k = 64) by omega) with hn | ⟨hn, hk64⟩
    · have q1 : decide ((k : Int) + 1 ≤ n) = false := decide_eq_false (by omega)
      go_wp2; go_ret
      exact ⟨ret_u64 (by rw [HF.out]), rfl⟩
    · have q1 : decide ((k : Int) + 1 ≤ n) = true := decide_eq_true hn
      have q2 : decide ((k : Int) + 1 ≤ 64) = false := decide_eq_false (by omega); clear hk64; go_wp2; go_ret
      exact ⟨ret_u64 (by rw [HF.out]), rfl⟩
