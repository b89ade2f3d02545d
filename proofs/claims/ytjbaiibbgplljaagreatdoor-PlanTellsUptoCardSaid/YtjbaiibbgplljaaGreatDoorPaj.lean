import Derived.Recover
import Derived.Defers
import Derived.Test.YtjbaiibbgplljaaGreatDoorPaf
import Derived.Test.YtjbaiibbgplljaaGreatDoorPai
set_option maxRecDepth 100000
set_option maxHeartbeats 40000000
namespace Go.Proofs.YtjbaiibbgplljaaGreatDoor
open Go.RowKit Go.Shelf Go.Proofs
attribute [local go_sem] Oper.semAt_some
theorem SplitSeq_any (s : ByteArray) (w : World) : Calls Tryz.prog 151 #[.string s, .string ⟨#[59]⟩] w fun e w' =>
 e = .returned (.func (.func 194) #[] #[.pointer (some ⟨w.heap.size + 1, 0, none⟩), .pointer (some ⟨w.heap.size, 0, none⟩), .pointer (some ⟨w.heap.size + 2, 0, none⟩)]) ∧
   w' = ((w.alloc (.cells #[.string s] 9)).alloc (.cells #[.string ⟨#[59]⟩] 9)).alloc (.cells #[.int .i64 0] 3) := by
 have h : Calls Tryz.prog 178 #[.string s, .string ⟨#[59]⟩, .int .i64 0] w fun e w' =>
  e = .returned (.func (.func 194) #[] #[.pointer (some ⟨w.heap.size + 1, 0, none⟩), .pointer (some ⟨w.heap.size, 0, none⟩), .pointer (some ⟨w.heap.size + 2, 0, none⟩)]) ∧
    w' = ((w.alloc (.cells #[.string s] 9)).alloc (.cells #[.string ⟨#[59]⟩] 9)).alloc (.cells #[.int .i64 0] 3) := by
  go_enter Tryz.func178, Tryz.ntmps178
  go_wp2; go_ret
  exact ⟨rfl, rfl⟩
 have H := hide h; clear h; go_enter Tryz.func151, Tryz.ntmps151
 go_wp2_with fail
 refine H.out.mono ?_; rintro e w' ⟨rfl, rfl⟩; go_wp2; go_ret
 exact ⟨rfl, rfl⟩
structure OpsAt (w : World) (acc : List Oq) (v : Value) (k : Nat) (x : Value) (rec : Loop) (W : World) : Prop where
 bl : Boxed W w.heap.size 87 v
 row : W.ownsRow w.heap.size 96 4 v (acc.take 64).length ((acc.take 64).flatMap oq)
 ov : Boxed W (w.heap.size + 1) 4 (.bool (decide (64 < k)))
 bs : Boxed W (w.heap.size + 2) 9 x
 bp : Boxed W (w.heap.size + 3) 9 (.string ⟨#[59]⟩)
 bv : Boxed W (w.heap.size + 4) 3 (.int .i64 0)
 df : W.heap[w.heap.size + 5]? = some (.deferred (some []))
 lp : W.heap[w.heap.size + 6]? = some (.loop rec)
 bw : Below w.heap.size w W
theorem OpsAt.setS {w W : World} {acc : List Oq} {v x : Value} {k : Nat} {rec : Loop} (h : OpsAt w acc v k x rec W) (y : Value) : OpsAt w acc v k y rec (W.setCell ⟨w.heap.size + 2, 0, none⟩ y) :=
 have ko := KeepsOthers.setCell W ⟨w.heap.size + 2, 0, none⟩ y; ⟨h.bl.other (by omega) y, h.row.kept (grownBy_setCell' W _ y) (Or.inr (h.bs.not_row (by decide) h.row).symm), h.ov.other (by omega) y, h.bs.set y, h.bp.other (by omega) y, h.bv.other (by omega) y,
  ko.same _ _ h.df rfl, ko.same _ _ h.lp rfl, h.bw.setCell (p := ⟨w.heap.size + 2, 0, none⟩) (by simp) y⟩
theorem OpsAt.putL {w W : World} {acc : List Oq} {v x : Value} {k : Nat} {rec : Loop} (h : OpsAt w acc v k x rec W) (rec' : Loop) : OpsAt w acc v k x rec' (W.putObj (w.heap.size + 6) (.loop rec')) :=
 have g := grownBy_putObj' W (w.heap.size + 6) (.loop rec'); have hn : ∀ B : Nat, B ≠ w.heap.size + 6 → some B ≠ some (w.heap.size + 6) := fun B hB e => hB (by injection e)
 ⟨h.bl.kept g (hn _ (by omega)), ownsRow_putObj h.row _ h.lp rfl, h.ov.kept g (hn _ (by omega)), h.bs.kept g (hn _ (by omega)), h.bp.kept g (hn _ (by omega)), h.bv.kept g (hn _ (by omega)),
  (World.putObj_heap_other (by omega)).trans h.df, World.putObj_heap_same (Array.getElem?_eq_some_iff.1 h.lp).1, h.bw.grown g h.bw.size (fun j e => by injection e with e; omega)⟩
theorem OpsAt.below {w W W' : World} {acc : List Oq} {v x : Value} {k : Nat} {rec : Loop} (h : OpsAt w acc v k x rec W) (hb : Below W.heap.size W W') : OpsAt w acc v k x rec W' :=
 have g := grown_of_below hb none; ⟨h.bl.kept g (by simp), h.row.kept g (by cases v.ownBlock <;> simp), h.ov.kept g (by simp), h.bs.kept g (by simp), h.bp.kept g (by simp), h.bv.kept g (by simp),
  (hb.block _ (Array.getElem?_eq_some_iff.1 h.df).1).trans h.df, (hb.block _ (Array.getElem?_eq_some_iff.1 h.lp).1).trans h.lp, bcall h.bw hb⟩
def PanCh (ch : List PanicEntry) : Prop := ∃ u v, ch = [{ v := .iface u v, recovered := false }]
theorem cOps_end {pre : List (List UInt8)} {p : List UInt8} {acc : List Oq} {q : Oq} (h : cOps pre = some acc) (hq : cOne p = some q) : cOps (pre ++ [p]) = some (acc ++ [q]) := by
 have h1 : pre.length < (pre ++ [p]).length := by simp
 have h2 := cOps_snoc (ps := pre ++ [p]) h1 (acc := acc) (by rw [List.take_left]; exact h); rw [List.take_of_length_le (by simp)] at h2; rw [h2, List.getElem_append_right (Nat.le_refl _)]; simp [hq]
theorem cOps_dead {pre rest : List (List UInt8)} {p : List UInt8} (hq : cOne p = none) : cOps (pre ++ p :: rest) = none := by
 refine cOps_none (i := pre.length) (by simp) ?_; rw [List.getElem_append_right (Nat.le_refl _)]; simpa using hq
theorem ops_loop {tmps : Array Value} {assign body : Code} (act : ByteArray → Act) (w W5 : World) (t0 : ByteArray) (hs : t0.size ≤ 9223372036854775807) (h5 : W5.heap.size = w.heap.size + 5)
 (h0 : ∀ rec, OpsAt w [] (.slice none 0 0) 0 (.string t0) rec ((W5.alloc (.deferred (some []))).alloc (.loop rec)))
 (ha : ∀ (l : Nat) (x : ByteArray) (W : World) (K : Act → World → Prop), K (act x) W → assign.wpIn (Fence.wide.inRound l) 3 Tryz.prog (Exit.then K (fun _ _ _ => False)) { tmps := (#[10].zip #[Value.string x]).foldl (fun t (p, v) => t.setIfInBounds p v) tmps, defers := [] } W)
 (hb : ∀ (l : Nat) (acc : List Oq) (v xx : Value) (k : Nat) (rec : Loop) (x : ByteArray) (W : World), OpsAt w acc v k xx rec W → acc.length = k → x.size ≤ 9223372036854775807 →
  body.wpIn (Fence.wide.inRound l) 3 Tryz.prog (fun e a3 W3 => (e = .normal ∧ ∃ q v', cOne x.data.toList = some q ∧ OpsAt w (acc ++ [q]) v' (k + 1) xx rec W3) ∨
   ∃ ch, e = .panic ch ∧ a3.defers = [] ∧ PanCh ch ∧ cOne x.data.toList = none ∧ OpsAt w acc v k xx rec W3) (act x) W) :
 CallsIn Fence.wide 0 Tryz.prog 194 (#[.func (.yield (W5.heap.size + 1)) #[] #[]] ++ #[.pointer (some ⟨w.heap.size + 3, 0, none⟩), .pointer (some ⟨w.heap.size + 2, 0, none⟩), .pointer (some ⟨w.heap.size + 4, 0, none⟩)])
  ((W5.alloc (.deferred (some []))).alloc (.loop { state := .ready, pending := none, fn := 163, tmps := tmps, params := #[10], assign := assign, body := body, defers := W5.heap.size }))
  (fun e w3 => ((∃ v, e = .returned v) ∧ ∃ acc v x rec, cOps (cut 59 t0.data.toList) = some acc ∧ rec.state = .ready ∧ rec.pending = none ∧ OpsAt w acc v (cut 59 t0.data.toList).length x rec w3) ∨
   ∃ ch, e = .panicked ch ∧ PanCh ch ∧ cOps (cut 59 t0.data.toList) = none ∧ w3.heap[w.heap.size + 5]? = some (.deferred (some [])) ∧ Below w.heap.size w w3) := by
 obtain ⟨rec, hrec⟩ : ∃ rec : LoopState → Loop, rec = fun st => { state := st, pending := none, fn := 163, tmps := tmps, params := #[10], assign := assign, body := body, defers := W5.heap.size } := ⟨_, rfl⟩
 have e1 : ({ state := .ready, pending := none, fn := 163, tmps := tmps, params := #[10], assign := assign, body := body, defers := W5.heap.size } : Loop) = rec .ready := by rw [hrec]
 rw [e1, h5]; have hst : (rec .ready).state = .ready := by rw [hrec]
 have hJ0 := h0 (rec .ready); refine CallsIn.mono (callsIn_wide.2 ((callsIn_wide (n := 4)).1 (split_in 4 (by decide) (w.heap.size + 5 + 1) (w.heap.size + 3) (w.heap.size + 2) (w.heap.size + 4) t0 hs
  (fun pre W => ∃ acc v x, cOps pre = some acc ∧ acc.length = pre.length ∧ OpsAt w acc v pre.length x (rec .ready) W)
  (fun ch W => PanCh ch ∧ cOps (cut 59 t0.data.toList) = none ∧ W.heap[w.heap.size + 5]? = some (.deferred (some [])) ∧ Below w.heap.size w W)
  ?_ ?_ ?_ _ ?_ hJ0.bs.cell))) ?_
 · rintro pre W v ⟨acc, v', x, h1, h2, h3⟩
   exact ⟨acc, v', v, h1, h2, h3.setS v⟩
 · rintro pre W ⟨acc, v', x, h1, h2, h3⟩
   exact ⟨h3.bp.cell, h3.bv.cell, h3.bs.frozen⟩
 · rintro pre rest x t W ⟨acc, v', xx, h1, h2, h3⟩ hc hx hcut
   have hxx : xx = .string t := by have := h3.bs.cell.symm.trans hc; injection this
   subst hxx; have hL := h3.lp; have hy := run_yield (P := Tryz.prog) (args := #[Value.string x]) hL (by rw [hrec]; rfl); refine ⟨_, _, _, _, hy, ?_⟩; rw [hrec]; refine roundP Tryz.func163 ?_; refine ha _ x W _ ?_; refine ⟨_, run_beginRound hL (by rw [hrec]), ?_⟩; refine wpIn_mono (hb _ acc v' (.string t) pre.length _ x _ (h3.putL _) h2 (by omega)) ?_; rintro e a3 W3 (⟨rfl, q, v2, hq, h4⟩ | ⟨ch, rfl, hd, hp, hq, h4⟩)
   · refine Or.inl ⟨rfl, _, _, run_endRound none h4.lp, Or.inl ⟨rfl, ⟨acc ++ [q], v2, .string t, cOps_end h1 hq, by simp [h2], ?_⟩, ?_⟩⟩
     · have h6 := h4.putL { rec .busy with state := .ready, pending := none }
       rw [hrec] at h6 ⊢; simp only [List.length_append, List.length_singleton]; exact h6
     · exact (h4.putL _).bs.cell
   · exact Or.inr ⟨ch, rfl, hd, Or.inr ⟨ch, rfl, hp, by rw [← hcut]; exact cOps_dead hq, h4.df, h4.bw⟩⟩
 · exact ⟨[], _, _, rfl, rfl, hJ0⟩
 · rintro e w3 (⟨hv, acc, v, x, h1, h2, h3⟩ | h)
   · exact Or.inl ⟨hv, acc, v, x, rec .ready, h1, by rw [hrec], by rw [hrec], h3⟩
   · exact Or.inr h
attribute [local go_sem] Oper.semAt_some
theorem take_more {acc : List Oq} {q : Oq} (h : 64 ≤ acc.length) : (acc ++ [q]).take 64 = acc.take 64 := by
 rw [List.take_append_of_le_length h]
theorem OpsAt.over {w W : World} {acc : List Oq} {v x : Value} {k : Nat} {rec : Loop} (h : OpsAt w acc v k x rec W) (hk : acc.length = k) (h64 : 64 ≤ acc.length) (q : Oq) : OpsAt w (acc ++ [q]) v (k + 1) x rec (W.setCell ⟨w.heap.size + 1, 0, none⟩ (.bool true)) :=
 have ko := KeepsOthers.setCell W ⟨w.heap.size + 1, 0, none⟩ (.bool true); ⟨h.bl.other (by omega) _, by rw [take_more h64]; exact h.row.kept (grownBy_setCell' W _ _) (Or.inr (h.ov.not_row (by decide) h.row).symm), by rw [show decide (64 < k + 1) = true by rw [decide_eq_true_eq]; omega]; exact h.ov.set _, h.bs.other (by omega) _, h.bp.other (by omega) _, h.bv.other (by omega) _,
  ko.same _ _ h.df rfl, ko.same _ _ h.lp rfl, h.bw.setCell (p := ⟨w.heap.size + 1, 0, none⟩) (by simp) _⟩
theorem OpsAt.app {w W w1 : World} {acc : List Oq} {v v' x : Value} {k : Nat} {rec : Loop} {tmp : Obj} {q : Oq} (h : OpsAt w acc v k x rec W) (hk : acc.length = k) (h64 : acc.length < 64)
 (hown : w1.ownsRow w.heap.size 96 4 v' ((acc.take 64).length + 1) ((acc.take 64).flatMap oq ++ oq q)) (hgrow : (W.alloc tmp).grownBy w1 v.ownBlock) :
 w1.cell? ⟨w.heap.size, 0, none⟩ = some v ∧ w1.frozen? ⟨w.heap.size, 0, none⟩ = false ∧ OpsAt w (acc ++ [q]) v' (k + 1) x rec (w1.setCell ⟨w.heap.size, 0, none⟩ v') := by
 obtain ⟨hv1, hv2, hr2, hk2, hb2⟩ := h.bl.appended (by decide) h.row h.bw.size (Nat.le_refl _) hown hgrow; have ht : acc.take 64 = acc := List.take_of_length_le (by omega); have ht2 : (acc ++ [q]).take 64 = acc ++ [q] := List.take_of_length_le (by simp; omega); have keep : ∀ {B : Nat} {t : TypeId} {u : Value}, Boxed W B t u → t ≠ 96 → B ≠ w.heap.size → Boxed (w1.setCell ⟨w.heap.size, 0, none⟩ v') B t u := fun hB hte hne => ((hB.alloc tmp).kept hgrow (hB.not_row hte h.row)).other hne _
 refine ⟨hv1.cell, hv1.frozen, ⟨hv2, ?_, ?_, keep h.bs (by decide) (by omega), keep h.bp (by decide) (by omega), keep h.bv (by decide) (by omega), hk2.same _ _ h.df rfl, hk2.same _ _ h.lp rfl, h.bw.trans hb2⟩⟩
 · rw [ht2, List.length_append, List.flatMap_append]
   rw [ht] at hr2; simpa using hr2
 · have e : decide (64 < k + 1) = decide (64 < k) := by rw [show decide (64 < k + 1) = false by rw [decide_eq_false_iff_not]; omega, show decide (64 < k) = false by rw [decide_eq_false_iff_not]; omega]
   rw [e]; exact keep h.ov (by decide) (by omega)
theorem ops_start (w : World) (s : ByteArray) : ∃ W5, (((((w.alloc (.cells #[.slice none 0 0] 87)).alloc (.cells #[.bool false] 4)).alloc (.cells #[.string s] 9)).alloc (.cells #[.string ⟨#[59]⟩] 9)).alloc (.cells #[.int .i64 0] 3)) = W5 ∧ W5.heap.size = w.heap.size + 5 ∧
 ∀ rec, OpsAt w [] (.slice none 0 0) 0 (.string s) rec ((W5.alloc (.deferred (some []))).alloc (.loop rec)) := by
 refine ⟨_, rfl, by simp, fun rec => ?_⟩; have b0 := (((((Boxed.new w 87 (.slice none 0 0)).alloc (.cells #[.bool false] 4)).alloc (.cells #[.string s] 9)).alloc (.cells #[.string ⟨#[59]⟩] 9)).alloc (.cells #[.int .i64 0] 3)); have b1 := ((((Boxed.new (w.alloc (.cells #[.slice none 0 0] 87)) 4 (.bool false)).alloc (.cells #[.string s] 9)).alloc (.cells #[.string ⟨#[59]⟩] 9)).alloc (.cells #[.int .i64 0] 3)); have b2 := (((Boxed.new ((w.alloc (.cells #[.slice none 0 0] 87)).alloc (.cells #[.bool false] 4)) 9 (.string s)).alloc (.cells #[.string ⟨#[59]⟩] 9)).alloc (.cells #[.int .i64 0] 3)); have b3 := ((Boxed.new (((w.alloc (.cells #[.slice none 0 0] 87)).alloc (.cells #[.bool false] 4)).alloc (.cells #[.string s] 9)) 9 (.string ⟨#[59]⟩)).alloc (.cells #[.int .i64 0] 3)); have b4 := (Boxed.new ((((w.alloc (.cells #[.slice none 0 0] 87)).alloc (.cells #[.bool false] 4)).alloc (.cells #[.string s] 9)).alloc (.cells #[.string ⟨#[59]⟩] 9)) 3 (.int .i64 0)); simp only [World.size_alloc] at b1 b2 b3 b4; obtain ⟨W5, hW⟩ : ∃ W5, (((((w.alloc (.cells #[.slice none 0 0] 87)).alloc (.cells #[.bool false] 4)).alloc (.cells #[.string s] 9)).alloc (.cells #[.string ⟨#[59]⟩] 9)).alloc (.cells #[.int .i64 0] 3)) = W5 := ⟨_, rfl⟩; have hs : W5.heap.size = w.heap.size + 5 := by rw [← hW]; simp
 have hB : Below w.heap.size w W5 := by
  rw [← hW]; exact (((((Below.refl _ w).alloc (Nat.le_refl _) _).alloc (by simp) _).alloc (by simp; omega) _).alloc (by simp; omega) _).alloc (by simp; omega) _
 rw [hW] at b0 b1 b2 b3 b4 ⊢; have d0 : ((W5.alloc (.deferred (some []))).alloc (.loop rec)).heap[w.heap.size + 5]? = some (.deferred (some [])) := by rw [← hs]; exact (Below.heap_alloc _ _ _ (by simp)).trans (World.alloc_heap_new W5 _)
 have d1 : ((W5.alloc (.deferred (some []))).alloc (.loop rec)).heap[w.heap.size + 6]? = some (.loop rec) := by
  have := World.alloc_heap_new (W5.alloc (.deferred (some []))) (.loop rec); rw [World.size_alloc, hs] at this; exact this
 exact ⟨(b0.alloc _).alloc _, World.ownsRow_nil _ _ _ _, (b1.alloc _).alloc _, (b2.alloc _).alloc _, (b3.alloc _).alloc _, (b4.alloc _).alloc _, d0, d1, (hB.alloc (by omega) _).alloc (by simp; omega) _⟩
theorem as_op (k r a z : Int) (w : World) : (Instr.typeAssert (.iface 96 (qv k r a z)) 233 96 false).run Tryz.prog w = .ok (qv k r a z) w := by kernel_rfl
theorem as_noOp (w : World) : (Instr.typeAssert .nilIface 233 96 false).run Tryz.prog w = .halt (.panic (.iface 15 (.pointer (some ⟨w.heap.size, 0, none⟩)))) (w.alloc (taErr (typeHandle Tryz.prog 233) (.pointer none) (typeHandle Tryz.prog 96))) := by kernel_rfl
theorem infoCop : (Tryz.prog.info? 96).map (fun i => (i.zero, i.size, i.bytes)) = some (some (.agg #[.int .i64 0, .int .i64 0, .int .i64 0, .int .i64 0]), 4, 32) := by kernel_rfl
attribute [local go_sem] Oper.semAt_some
def OpsP (t : List UInt8) (w : World) (e : Ending) (w' : World) : Prop :=
 (match cOps (cut 59 t) with
  | none => PanC e
  | some l => if 64 < l.length then e = .returned (.tuple #[.slice none 0 0, .int .i64 3]) else ∃ v, e = .returned (.tuple #[v, .int .i64 0]) ∧ w'.ownsRow w.heap.size 96 4 v l.length (l.flatMap oq)) ∧ Below w.heap.size w w'
theorem ops_any (s : ByteArray) (w : World) (hs : s.size ≤ 9223372036854775807) : CallsIn Fence.wide 4 Tryz.prog 163 #[.string s] w (OpsP s.data.toList w) := by
 obtain ⟨i0, hi, hz0, hz1, hz2⟩ := info_parts infoCop; obtain ⟨W5, eW, h5, h0⟩ := ops_start w s; refine callsAt Tryz.func163 rfl ?_; simp only [Tryz.ntmps163, List.size_toArray, List.length_cons, List.length_nil, Nat.reduceAdd, Nat.reduceSub, Array.replicate_succ, Array.replicate_zero, List.push_toArray, List.append_toArray, List.nil_append, List.cons_append]; refine WpAt.seq (WpAt.of_wp (n := 4) ?_); gi_wp2
 refine WpAt.seq (WpAt.of_wp (n := 4) ?_); gi_wp2
 refine WpAt.seq (WpAt.of_wp (n := 4) ?_); gi_wp2
 refine WpAt.seq ?_; refine WpAt.seq (WpAt.of_wp (n := 4) ?_); gi_wp2_with (refine ⟨trivial, ?_⟩; gi_at_call 151; refine (callsIn_wide.2 (SplitSeq_any _ _)).mono ?_; rintro e w' ⟨rfl, rfl⟩)
 refine WpAt.block ?_; refine WpAt.rangeFunc (gf := 194) (lb := #[.pointer (some ⟨w.heap.size + 3, 0, none⟩), .pointer (some ⟨w.heap.size + 2, 0, none⟩), .pointer (some ⟨w.heap.size + 4, 0, none⟩)]) rfl (enters_of Tryz.func194 (by kernel_rfl) rfl) ?_
 refine CallsIn.mono (ops_loop (fun x => { tmps := #[.string s, undef, .slice none 0 0, .int .i64 0, .pointer (some ⟨w.heap.size, 0, none⟩), .pointer (some ⟨w.heap.size + 1, 0, none⟩), .string x, undef, .string s,
  .func (.func 194) #[] #[.pointer (some ⟨w.heap.size + 1 + 1 + 1, 0, none⟩), .pointer (some ⟨w.heap.size + 1 + 1, 0, none⟩), .pointer (some ⟨w.heap.size + 1 + 1 + 2, 0, none⟩)], .string x, undef, undef, undef, undef, undef, undef, undef, undef, undef, undef, undef, undef], defers := [] }) w W5 s hs h5 h0 ?ha ?hb) ?post
 case ha =>
  intro l x W K hK; gi_wp2
  exact hK
 case hb =>
  intro l acc v xx k rec x W hO hk hx; subst hk; have HRd := Go.Lib.hid (read_anyCd x · hx); have HO := Go.Lib.hid hO; obtain ⟨o, ho⟩ : ∃ o, cOne x.data.toList = o := ⟨_, rfl⟩; rw [ho] at HRd ⊢; clear hO ho; cases o with
  | none =>
    have f1 := as_noOp; gi_wp2_with (refine ⟨trivial, ?_⟩; gi_at_call 185; refine (CallsIn.inRound l (callsIn_wide.2 (HRd.out _))).mono ?_; rintro e w1 ⟨(rfl | ⟨u, vv, rfl⟩), hb1⟩)
    · exact ⟨⟨_, _, rfl⟩, HO.out.below (bcall hb1 (cbal _ _))⟩
    · exact ⟨⟨_, _, rfl⟩, HO.out.below hb1⟩
  | some q =>
    obtain ⟨kk, r, a, z⟩ := q; have f1 := as_op kk r a z; dsimp only [RdV] at HRd; obtain ⟨A, c, hv, hc1, hc2⟩ := own_form HO.out.row; by_cases h64 : 64 ≤ acc.length
    · rw [show (acc.take 64).length = 64 by rw [List.length_take]; omega] at hv
      subst hv; clear hc1 hc2; gi_wp2_with (refine ⟨trivial, ?_⟩; gi_at_call 185; refine (CallsIn.inRound l (callsIn_wide.2 (HRd.out _))).mono ?_; rintro e w1 ⟨rfl, hb1⟩; obtain ⟨w2, e2, hb2, hs2, X⟩ := b4_new w1 (.int .i64 kk) (.int .i64 r) (.int .i64 a) (.int .i64 z) 96; obtain ⟨X0, X1, X2, X3⟩ := X.all; have hs2 := Go.Lib.hid hs2; have hO2 := HO.out.below (bcall hb1 hb2); have g1 := hO2.bl.cell; have g2 := hO2.ov.cell; have g3 := hO2.ov.frozen; replace hO2 := Go.Lib.hid hO2)
      exact ⟨_, hO2.out.over rfl h64 _⟩
    · rw [show (acc.take 64).length = acc.length by rw [List.length_take]; omega] at hv
      subst hv; have hn : acc.length ≠ 64 := by omega
      have qk : ((acc.length : Int) == 64) = false := by rw [beq_eq_false_iff_ne]; omega
      have ht : acc.take 64 = acc := List.take_of_length_le (by omega); gi_wp2_with (first
       | (refine ⟨trivial, ?_⟩; gi_at_call 185; refine (CallsIn.inRound l (callsIn_wide.2 (HRd.out _))).mono ?_; rintro e w1 ⟨rfl, hb1⟩; obtain ⟨w2, e2, hb2, hs2, X⟩ := b4_new w1 (.int .i64 kk) (.int .i64 r) (.int .i64 a) (.int .i64 z) 96; obtain ⟨X0, X1, X2, X3⟩ := X.all; have hs2 := Go.Lib.hid hs2; have hO2 := HO.out.below (bcall hb1 hb2); have hsz := hO2.bw.size; have g1 := hO2.bl.cell; have g2 := hO2.bl.frozen; have hR := hO2.row; rw [ht] at hR; replace hO2 := Go.Lib.hid hO2; have hR := Go.Lib.hid hR; have hsz := Go.Lib.hid hsz)
       | (gi_at_builtin; refine wpListIn_append_own _ rfl _ _ 87 rfl w.heap.size 96 i0 (.agg #[.int .i64 0, .int .i64 0, .int .i64 0, .int .i64 0]) 4 32 Tryz.underlying87 hi hz0 hz1 hz2 rfl (by decide) _ _ _ rfl (hR.out.alloc _) ⟨_, 0, none⟩ 1 1 [.int .i64 kk, .int .i64 r, .int .i64 a, .int .i64 z] rfl rfl (row_at _ _ _ (by have := hs2.out; first | (simp; omega) | omega)) (by simp [Value.oneCell']) (by simp only [maxLen]; omega) (by omega) (by have := hsz.out; have := hs2.out; first | (simp; omega) | omega) ?_; intro v' w3 hown' hgrow _; obtain ⟨g', cap', rfl⟩ := ownsRow_succ hown'; obtain ⟨hc1, hf1, hO3⟩ := hO2.out.app (q := ⟨kk, r, a, z⟩) rfl (by omega) (by rw [ht]; exact hown') hgrow; replace hO3 := Go.Lib.hid hO3))
      exact ⟨_, hO3.out⟩
 case post =>
  rintro e w3 (⟨⟨v, rfl⟩, acc, v', x, rec, h1, hst, hpe, hO⟩ | ⟨ch, rfl, hp, h1, hd, hb⟩)
  · have hlp := hO.lp
    rw [show w.heap.size + 6 = W5.heap.size + 1 by omega] at hlp; refine Or.inl ⟨_, _, rfl, (run_endLoop (P := Tryz.prog) hlp (by rw [hst]; simp)).trans (by rw [hpe]), Or.inl ⟨rfl, ?_⟩⟩; refine WpAt.of_wp (n := 4) ?_; rw [h5]; have hlen := cOps_len h1; have hO4 := hO.putL { rec with state := .exhausted, pending := none }; obtain ⟨w4, e4⟩ : ∃ w4, w3.putObj (w.heap.size + 6) (.loop { rec with state := .exhausted, pending := none }) = w4 := ⟨_, rfl⟩; rw [e4] at hO4; rw [show w.heap.size + 5 + 1 = w.heap.size + 6 from rfl, e4]; have g1 := hO4.bl.cell; have g2 := hO4.ov.cell; have HO4 := Go.Lib.hid hO4; have H1 := Go.Lib.hid h1; clear hO4 hO hlp e4 h0 eW h1; by_cases h64 : 64 < (cut 59 s.data.toList).length
    · have qd : decide (64 < (cut 59 s.data.toList).length) = true := decide_eq_true h64
      gi_wp2
      refine ⟨by simp, .inl ⟨_, _, rfl, run_takeDeferred HO4.out.df, ?_⟩⟩; refine ⟨.tuple #[.slice none 0 0, .int .i64 3], by simp [results, Tryz.results163, go_sem], ?_⟩; unfold OpsP; rw [H1.out]; simp only
      rw [if_pos (by omega)]; exact ⟨by first | trivial | rfl, HO4.out.bw.trans (belowK_b (w := w) (Nat.le_refl _) _ _ _ _ (by omega) HO4.out.df rfl rfl)⟩
    · have qd : decide (64 < (cut 59 s.data.toList).length) = false := decide_eq_false h64
      gi_wp2
      refine ⟨by simp, .inl ⟨_, _, rfl, run_takeDeferred HO4.out.df, ?_⟩⟩; refine ⟨.tuple #[v', .int .i64 0], by simp [results, Tryz.results163, go_sem], ?_⟩; unfold OpsP; rw [H1.out]; simp only
      rw [if_neg (by omega)]; have hr := HO4.out.row; rw [List.take_of_length_le (by omega)] at hr; exact ⟨⟨v', by first | trivial | rfl, ownsRow_putObj hr _ HO4.out.df rfl⟩, HO4.out.bw.trans (belowK_b (w := w) (Nat.le_refl _) _ _ _ _ (by omega) HO4.out.df rfl rfl)⟩
  · refine Or.inr ⟨ch, rfl, Or.inr ⟨ch, rfl, Or.inr ⟨ch, rfl, ?_⟩⟩⟩
    rw [h5]; refine ⟨by simp, .inl ⟨_, _, rfl, run_takeDeferred hd, ?_⟩⟩; show OpsP s.data.toList w (.panicked ch) _
    unfold OpsP; rw [h1]; obtain ⟨u, v, rfl⟩ := hp; exact ⟨⟨u, v, rfl⟩, belowK_b (w := w) (Nat.le_refl _) _ _ _ _ (by omega) hd rfl rfl |> hb.trans⟩
theorem c_panicking (T E : Nat) (a c : Value) (u : TypeId) (pv : Value) (older : List PanicEntry) (w : World) (h0 : w.cell? ⟨T, 0, none⟩ = some a) (h2 : w.cell? ⟨E, 0, none⟩ = some c)
 (f0 : w.frozen? ⟨T, 0, none⟩ = false) (f2 : w.frozen? ⟨E, 0, none⟩ = false) (_hTE : T ≠ E) (_hET : E ≠ T) :
 CallsD Tryz.prog 162 #[.pointer (some ⟨T, 0, none⟩), .pointer (some ⟨E, 0, none⟩)] (.panicking ({ v := .iface u pv, recovered := false } :: older)) w fun e u' w' =>
  e = .returned (.tuple #[]) ∧ u' = .panicking ({ v := .iface u pv, recovered := true } :: older) ∧ w' = (w.setCell ⟨T, 0, none⟩ (.slice none 0 0)).setCell ⟨E, 0, none⟩ (.int .i64 2) := by
 refine callsD_of_wpS Tryz.func162 rfl fun c₀ cs hu => ?_
 apply wpS_seq
 apply wpS_region
 simp [wpOpsS, go_sem, recoverD, hu, Tryz.ntmps162, Exit.thenS]
 refine wpS_cond (t := true) (by simp [Act.eval, Array.replicate]) ?_; simp only [if_true]; apply wpS_region
 simp [wpOpsS, go_sem, h0, h2, f0, f2, bodyPostS, results, Tryz.results162]
theorem c_idle (T E : Nat) (w : World) :
 CallsD Tryz.prog 162 #[.pointer (some ⟨T, 0, none⟩), .pointer (some ⟨E, 0, none⟩)] .returning w fun e u' w' => e = .returned (.tuple #[]) ∧ u' = .returning ∧ w' = w := by
 refine callsD_of_wpS Tryz.func162 rfl fun c₀ cs hu => ?_
 apply wpS_seq
 apply wpS_region
 simp [wpOpsS, go_sem, recoverD, hu, Tryz.ntmps162, Exit.thenS]
 refine wpS_cond (t := false) (by simp [Act.eval, Array.replicate]) ?_; simp only [Bool.false_eq_true, if_false]; refine wpS_of_wp (wp_skip ?_); cases c₀
 simp_all [bodyPostS, results, Tryz.results162]
theorem box_twoCd (w : World) (t1 t2 : TypeId) (x y : Value) : ∃ w1, (w.alloc (.cells #[x] t1)).alloc (.cells #[y] t2) = w1 ∧ Below w.heap.size w w1 ∧ w1.heap.size = w.heap.size + 2 ∧ Boxed w1 w.heap.size t1 x ∧ Boxed w1 (w.heap.size + 1) t2 y := by
 refine ⟨_, rfl, ((Below.refl _ w).alloc (Nat.le_refl _) _).alloc (by simp) _, by simp, (Boxed.new w t1 x).alloc _, ?_⟩; have := Boxed.new (w.alloc (.cells #[x] t1)) t2 y; rwa [World.size_alloc] at this
theorem boxed_below {W W' : World} {B : Nat} {t : TypeId} {v : Value} (h : Boxed W B t v) (hb : Below W.heap.size W W') : Boxed W' B t v := h.kept (grown_of_below hb none) (by simp)
def ParseP (t : List UInt8) (w : World) (e : Ending) (w' : World) : Prop :=
 ∃ v, e = .returned (.tuple #[v, .int .i64 (cParse t).2]) ∧ w'.ownsRow w.heap.size 96 4 v (cParse t).1.length ((cParse t).1.flatMap oq) ∧ Below w.heap.size w w'
theorem Parse_anyCd (s : ByteArray) (w : World) (hs : s.size ≤ 9223372036854775807) : Calls Tryz.prog 121 #[.string s] w (ParseP s.data.toList w) := by
 have hmf : ∀ (fn : Fn) (first cap : Array Value) (w : World), (Instr.makeFunc fn first cap).run Tryz.prog w = .ok (.func fn first cap) w := fun _ _ _ _ => rfl
 have HO := hide (fun w => (callsIn_wide (n := 4)).1 (ops_any s w hs)); obtain ⟨t, ht⟩ : ∃ t, s.data.toList = t := ⟨_, rfl⟩; rw [ht] at HO ⊢; obtain ⟨w1, e1, hb1, hs1, bT, bE⟩ := box_twoCd w 87 33 (.slice none 0 0) (.int .i64 0); have HB1 := hide hb1; have HT := hide bT; have HE := hide bE; have HS1 := hide hs1; by_cases hd : t = [45]
 · have EF := hide (show cParse t = ([], 0) by unfold cParse; rw [if_pos hd])
   have q1 : (s.toList == [45]) = true := by rw [beq_iff_eq, ba_list, ht]; exact hd
   have r0 := bT.cell; have r1 := bE.cell; have r2 := bT.frozen; have r3 := bE.frozen; clear hd ht bT bE hb1 hs1; go_enter_defers Tryz.func121, Tryz.ntmps121
   go_wp2; refine leaves_cons (f := 162) (args := #[.pointer (some ⟨w.heap.size, 0, none⟩), .pointer (some ⟨w.heap.size + 1, 0, none⟩)]) (by simp) (by simp [go_sem]) ?_; refine (c_idle _ _ _).mono ?_; rintro e u' w'' ⟨rfl, rfl, rfl⟩; simp only [Leaves, settle]; refine ⟨.tuple #[.slice none 0 0, .int .i64 0], by simp [results, Tryz.results121, go_sem, r0, r1], .slice none 0 0, by rw [EF.out], ?_, (HB1.out.setCell (by simp) _).setCell (by simp) _⟩; rw [EF.out]; exact World.ownsRow_nil _ _ _ _
 · have EF := hide (show cParse t = (match cOps (cut 59 t) with | none => ([], 2) | some l => if 64 < l.length then ([], 3) else (l, 0)) by unfold cParse; rw [if_neg hd]; cases cOps (cut 59 t) <;> rfl)
   have q1 : (s.toList == [45]) = false := by rw [beq_eq_false_iff_ne, ba_list, ht]; exact hd
   obtain ⟨o, ho⟩ : ∃ o, cOps (cut 59 t) = o := ⟨_, rfl⟩; unfold OpsP at HO; rw [ho] at EF HO; have HOO := hide (HO.out w1); clear hd ht bT bE hb1 hs1 ho HO; go_enter_defers Tryz.func121, Tryz.ntmps121
   go_wp2_with fail
   (with_reducible refine HOO.out.mono ?_); rintro e w2 ⟨he, hb2⟩; have HT2 := hide (boxed_below HT.out hb2); have HE2 := hide (boxed_below HE.out hb2); have HB2 := hide (bcall HB1.out hb2); have r0 := HT2.out.cell; have r1 := HE2.out.cell; have r2 := HT2.out.frozen; have r3 := HE2.out.frozen; cases o with
   | none =>
     obtain ⟨u, v, rfl⟩ := he; clear hb2; go_wp2; refine leaves_cons (f := 162) (args := #[.pointer (some ⟨w.heap.size, 0, none⟩), .pointer (some ⟨w.heap.size + 1, 0, none⟩)]) (by simp) (by simp [go_sem]) ?_; refine (c_panicking w.heap.size (w.heap.size + 1) _ _ u v [] w2 r0 r1 r2 r3 (by omega) (by omega)).mono ?_; rintro e u' w'' ⟨rfl, rfl, rfl⟩; simp only [Leaves, settle, List.dropWhile_nil]; refine ⟨.tuple #[.slice none 0 0, .int .i64 2], by simp [results, Tryz.results121, go_sem, r0, r1], .slice none 0 0, by rw [EF.out], ?_, (HB2.out.setCell (by simp) _).setCell (by simp) _⟩; rw [EF.out]; exact World.ownsRow_nil _ _ _ _
   | some l =>
     simp only at he EF
     by_cases h64 : 64 < l.length
     · rw [if_pos h64] at he EF
       subst he; clear hb2; go_wp2; refine leaves_cons (f := 162) (args := #[.pointer (some ⟨w.heap.size, 0, none⟩), .pointer (some ⟨w.heap.size + 1, 0, none⟩)]) (by simp) (by simp [go_sem]) ?_; refine (c_idle _ _ _).mono ?_; rintro e u' w'' ⟨rfl, rfl, rfl⟩; simp only [Leaves, settle]; refine ⟨.tuple #[.slice none 0 0, .int .i64 3], by simp [results, Tryz.results121, go_sem, r0, r1], .slice none 0 0, by rw [EF.out], ?_, (HB2.out.setCell (by simp) _).setCell (by simp) _⟩; rw [EF.out]; exact World.ownsRow_nil _ _ _ _
     · rw [if_neg h64] at he EF
       obtain ⟨v, rfl, hrow⟩ := he; obtain ⟨A, c, rfl, hc1, hc2⟩ := own_form hrow; have HR := hide hrow; clear hb2 hrow; go_wp2; refine leaves_cons (f := 162) (args := #[.pointer (some ⟨w.heap.size, 0, none⟩), .pointer (some ⟨w.heap.size + 1, 0, none⟩)]) (by simp) (by simp [go_sem]) ?_; refine (c_idle _ _ _).mono ?_; rintro e u' w'' ⟨rfl, rfl, rfl⟩; simp only [Leaves, settle]; refine ⟨.tuple #[.slice A l.length c, .int .i64 0], by simp [results, Tryz.results121, go_sem, r0, r1], .slice A l.length c, by rw [EF.out], ?_, (HB2.out.setCell (by simp) _).setCell (by simp) _⟩; rw [EF.out]; have HS := HS1.out; exact own_base (ownsRow_setCell_below (ownsRow_setCell_below HR.out (by simp; omega) _) (by simp; omega) _) (by omega)
