/- Layer code: ops. -/
import Derived.Test.YtffdgkofolomlaaDoorCodeIter
import Derived.Test.YtffdgkofolomlaaDoorRefCodeF
namespace Go.Proofs.YtffdgkofolomlaaDoor
open Go.RowKit Go.Shelf Go.Proofs
attribute [local go_sem] Oper.semAt_some

theorem SplitSeq_any (s : ByteArray) (w : World) : Calls Tryd.prog 35 #[.string s, .string ⟨#[59]⟩] w fun e w' =>
    e = .returned (.func (.func 44) #[] #[.pointer (some ⟨w.heap.size + 1, 0, none⟩), .pointer (some ⟨w.heap.size, 0, none⟩), .pointer (some ⟨w.heap.size + 2, 0, none⟩)]) ∧
      w' = ((w.alloc (.cells #[.string s] 9)).alloc (.cells #[.string ⟨#[59]⟩] 9)).alloc (.cells #[.int .i64 0] 3) := by
  have h : Calls Tryd.prog 39 #[.string s, .string ⟨#[59]⟩, .int .i64 0] w fun e w' =>
    e = .returned (.func (.func 44) #[] #[.pointer (some ⟨w.heap.size + 1, 0, none⟩), .pointer (some ⟨w.heap.size, 0, none⟩), .pointer (some ⟨w.heap.size + 2, 0, none⟩)]) ∧
      w' = ((w.alloc (.cells #[.string s] 9)).alloc (.cells #[.string ⟨#[59]⟩] 9)).alloc (.cells #[.int .i64 0] 3) := by
    go_enter Tryd.func39, Tryd.ntmps39
    go_wp2
    go_ret
    exact ⟨rfl, rfl⟩
  have H := hide h
  clear h
  go_enter Tryd.func35, Tryd.ntmps35
  go_wp2_with fail
  refine H.out.mono ?_
  rintro e w' ⟨rfl, rfl⟩
  go_wp2
  go_ret
  exact ⟨rfl, rfl⟩
/-- where ops stands between two rounds -/
structure OpsAt (w : World) (acc : List Oq) (v : Value) (k : Nat) (x : Value) (rec : Loop) (W : World) : Prop where
  bl : Boxed W w.heap.size 22 v
  row : W.ownsRow w.heap.size 24 4 v (acc.take 64).length ((acc.take 64).flatMap oq)
  ov : Boxed W (w.heap.size + 1) 4 (.bool (decide (64 < k)))
  bs : Boxed W (w.heap.size + 2) 9 x
  bp : Boxed W (w.heap.size + 3) 9 (.string ⟨#[59]⟩)
  bv : Boxed W (w.heap.size + 4) 3 (.int .i64 0)
  df : W.heap[w.heap.size + 5]? = some (.deferred (some []))
  lp : W.heap[w.heap.size + 6]? = some (.loop rec)
  bw : Below w.heap.size w W
theorem OpsAt.setS {w W : World} {acc : List Oq} {v x : Value} {k : Nat} {rec : Loop} (h : OpsAt w acc v k x rec W) (y : Value) : OpsAt w acc v k y rec (W.setCell ⟨w.heap.size + 2, 0, none⟩ y) :=
  have ko := KeepsOthers.setCell W ⟨w.heap.size + 2, 0, none⟩ y
  ⟨h.bl.other (by omega) y, h.row.kept (grownBy_setCell' W _ y) (Or.inr (h.bs.not_row (by decide) h.row).symm), h.ov.other (by omega) y, h.bs.set y, h.bp.other (by omega) y, h.bv.other (by omega) y,
    ko.same _ _ h.df rfl, ko.same _ _ h.lp rfl, h.bw.setCell (p := ⟨w.heap.size + 2, 0, none⟩) (by simp) y⟩
theorem OpsAt.putL {w W : World} {acc : List Oq} {v x : Value} {k : Nat} {rec : Loop} (h : OpsAt w acc v k x rec W) (rec' : Loop) : OpsAt w acc v k x rec' (W.putObj (w.heap.size + 6) (.loop rec')) :=
  have g := grownBy_putObj' W (w.heap.size + 6) (.loop rec')
  have hn : ∀ B : Nat, B ≠ w.heap.size + 6 → some B ≠ some (w.heap.size + 6) := fun B hB e => hB (by injection e)
  ⟨h.bl.kept g (hn _ (by omega)), ownsRow_putObj h.row _ h.lp rfl, h.ov.kept g (hn _ (by omega)), h.bs.kept g (hn _ (by omega)), h.bp.kept g (hn _ (by omega)), h.bv.kept g (hn _ (by omega)),
    (World.putObj_heap_other (by omega)).trans h.df, World.putObj_heap_same (Array.getElem?_eq_some_iff.1 h.lp).1, h.bw.grown g h.bw.size (fun j e => by injection e with e; omega)⟩
theorem OpsAt.below {w W W' : World} {acc : List Oq} {v x : Value} {k : Nat} {rec : Loop} (h : OpsAt w acc v k x rec W) (hb : Below W.heap.size W W') : OpsAt w acc v k x rec W' :=
  have g := grown_of_below hb none
  ⟨h.bl.kept g (by simp), h.row.kept g (by cases v.ownBlock <;> simp), h.ov.kept g (by simp), h.bs.kept g (by simp), h.bp.kept g (by simp), h.bv.kept g (by simp),
    (hb.block _ (Array.getElem?_eq_some_iff.1 h.df).1).trans h.df, (hb.block _ (Array.getElem?_eq_some_iff.1 h.lp).1).trans h.lp, bcall h.bw hb⟩
/-- the panics of a reading -/
def PanCh (ch : List PanicEntry) : Prop := ∃ u v, ch = [{ v := .iface u v, recovered := false }]
theorem cOps_end {pre : List (List UInt8)} {p : List UInt8} {acc : List Oq} {q : Oq} (h : cOps pre = some acc) (hq : cOne p = some q) : cOps (pre ++ [p]) = some (acc ++ [q]) := by
  have h1 : pre.length < (pre ++ [p]).length := by simp
  have h2 := cOps_snoc (ps := pre ++ [p]) h1 (acc := acc) (by rw [List.take_left]; exact h)
  rw [List.take_of_length_le (by simp)] at h2
  rw [h2, List.getElem_append_right (Nat.le_refl _)]
  simp [hq]
theorem cOps_dead {pre rest : List (List UInt8)} {p : List UInt8} (hq : cOne p = none) : cOps (pre ++ p :: rest) = none := by
  refine cOps_none (i := pre.length) (by simp) ?_
  rw [List.getElem_append_right (Nat.le_refl _)]
  simpa using hq
/-- the loop of ops, from its body's walk -/
theorem ops_loop {tmps : Array Value} {assign body : Code} (act : ByteArray → Act) (w W5 : World) (t0 : ByteArray) (hs : t0.size ≤ 9223372036854775807) (h5 : W5.heap.size = w.heap.size + 5)
    (h0 : ∀ rec, OpsAt w [] (.slice none 0 0) 0 (.string t0) rec ((W5.alloc (.deferred (some []))).alloc (.loop rec)))
    (ha : ∀ (l : Nat) (x : ByteArray) (W : World) (K : Act → World → Prop), K (act x) W → assign.wpIn (Fence.wide.inRound l) 3 Tryd.prog (Exit.then K (fun _ _ _ => False)) { tmps := (#[10].zip #[Value.string x]).foldl (fun t (p, v) => t.setIfInBounds p v) tmps, defers := [] } W)
    (hb : ∀ (l : Nat) (acc : List Oq) (v xx : Value) (k : Nat) (rec : Loop) (x : ByteArray) (W : World), OpsAt w acc v k xx rec W → acc.length = k → x.size ≤ 9223372036854775807 →
      body.wpIn (Fence.wide.inRound l) 3 Tryd.prog (fun e a3 W3 => (e = .normal ∧ ∃ q v', cOne x.data.toList = some q ∧ OpsAt w (acc ++ [q]) v' (k + 1) xx rec W3) ∨
        ∃ ch, e = .panic ch ∧ a3.defers = [] ∧ PanCh ch ∧ cOne x.data.toList = none ∧ OpsAt w acc v k xx rec W3) (act x) W) :
    CallsIn Fence.wide 0 Tryd.prog 44 (#[.func (.yield (W5.heap.size + 1)) #[] #[]] ++ #[.pointer (some ⟨w.heap.size + 3, 0, none⟩), .pointer (some ⟨w.heap.size + 2, 0, none⟩), .pointer (some ⟨w.heap.size + 4, 0, none⟩)])
      ((W5.alloc (.deferred (some []))).alloc (.loop { state := .ready, pending := none, fn := 26, tmps := tmps, params := #[10], assign := assign, body := body, defers := W5.heap.size }))
      (fun e w3 => ((∃ v, e = .returned v) ∧ ∃ acc v x rec, cOps (cut 59 t0.data.toList) = some acc ∧ rec.state = .ready ∧ rec.pending = none ∧ OpsAt w acc v (cut 59 t0.data.toList).length x rec w3) ∨
        ∃ ch, e = .panicked ch ∧ PanCh ch ∧ cOps (cut 59 t0.data.toList) = none ∧ w3.heap[w.heap.size + 5]? = some (.deferred (some [])) ∧ Below w.heap.size w w3) := by
  obtain ⟨rec, hrec⟩ : ∃ rec : LoopState → Loop, rec = fun st => { state := st, pending := none, fn := 26, tmps := tmps, params := #[10], assign := assign, body := body, defers := W5.heap.size } := ⟨_, rfl⟩
  have e1 : ({ state := .ready, pending := none, fn := 26, tmps := tmps, params := #[10], assign := assign, body := body, defers := W5.heap.size } : Loop) = rec .ready := by rw [hrec]
  rw [e1, h5]
  have hst : (rec .ready).state = .ready := by rw [hrec]
  have hJ0 := h0 (rec .ready)
  refine CallsIn.mono (callsIn_wide.2 ((callsIn_wide (n := 4)).1 (split_in 4 (by decide) (w.heap.size + 5 + 1) (w.heap.size + 3) (w.heap.size + 2) (w.heap.size + 4) t0 hs
    (fun pre W => ∃ acc v x, cOps pre = some acc ∧ acc.length = pre.length ∧ OpsAt w acc v pre.length x (rec .ready) W)
    (fun ch W => PanCh ch ∧ cOps (cut 59 t0.data.toList) = none ∧ W.heap[w.heap.size + 5]? = some (.deferred (some [])) ∧ Below w.heap.size w W)
    ?_ ?_ ?_ _ ?_ hJ0.bs.cell))) ?_
  · rintro pre W v ⟨acc, v', x, h1, h2, h3⟩
    exact ⟨acc, v', v, h1, h2, h3.setS v⟩
  · rintro pre W ⟨acc, v', x, h1, h2, h3⟩
    exact ⟨h3.bp.cell, h3.bv.cell, h3.bs.frozen⟩
  · rintro pre rest x t W ⟨acc, v', xx, h1, h2, h3⟩ hc hx hcut
    have hxx : xx = .string t := by have := h3.bs.cell.symm.trans hc; injection this
    subst hxx
    have hL := h3.lp
    have hy := run_yield (P := Tryd.prog) (args := #[Value.string x]) hL (by rw [hrec]; rfl)
    refine ⟨_, _, _, _, hy, ?_⟩
    rw [hrec]
    refine roundP Tryd.func26 ?_
    refine ha _ x W _ ?_
    refine ⟨_, run_beginRound hL (by rw [hrec]), ?_⟩
    refine wpIn_mono (hb _ acc v' (.string t) pre.length _ x _ (h3.putL _) h2 (by omega)) ?_
    rintro e a3 W3 (⟨rfl, q, v2, hq, h4⟩ | ⟨ch, rfl, hd, hp, hq, h4⟩)
    · refine Or.inl ⟨rfl, _, _, run_endRound none h4.lp, Or.inl ⟨rfl, ⟨acc ++ [q], v2, .string t, cOps_end h1 hq, by simp [h2], ?_⟩, ?_⟩⟩
      · have h6 := h4.putL { rec .busy with state := .ready, pending := none }
        rw [hrec] at h6 ⊢
        simp only [List.length_append, List.length_singleton]
        exact h6
      · exact (h4.putL _).bs.cell
    · exact Or.inr ⟨ch, rfl, hd, Or.inr ⟨ch, rfl, hp, by rw [← hcut]; exact cOps_dead hq, h4.df, h4.bw⟩⟩
  · exact ⟨[], _, _, rfl, rfl, hJ0⟩
  · rintro e w3 (⟨hv, acc, v, x, h1, h2, h3⟩ | h)
    · exact Or.inl ⟨hv, acc, v, x, rec .ready, h1, by rw [hrec], by rw [hrec], h3⟩
    · exact Or.inr h
end Go.Proofs.YtffdgkofolomlaaDoor
