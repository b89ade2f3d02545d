/- Layer ledger: ledgers and deeds that came in; the law's ledger, deed by deed. -/
import Derived.Test.YtgbkphgclpgppaaLedgerEx
namespace Go.Proofs.Ytgbkphgclpgppaa
open Go.RowKit Go.WideShapes Go.ChangeShapes Go.ChangeAt Go.Deep

def dc (d : Dg) : List Value := [.int .u8 d.kind, .int .u8 d.who, .int .u8 d.n, .int .u8 d.limit]
theorem dc_len (d : Dg) : (dc d).length = 4 := rfl
abbrev Dgs (w : World) (v : Value) (l : List Dg) : Prop := Sl dc 4 w v l
def DgU (d : Dg) : Prop := U8 d.kind ∧ U8 d.who ∧ U8 d.n ∧ U8 d.limit
theorem dg_at {w : World} {A : Option Addr} {n c i : Nat} {l : List Dg} {k t a b : Int} (h : Dgs w (.slice A n c) l) (hi : i < l.length) (e : l[i] = ⟨k, t, a, b⟩) :
    ∃ g off, A = some ⟨g, off, none⟩ ∧ g < w.heap.size ∧ w.cell? ⟨g, off + i * 4, none⟩ = some (.int .u8 k) ∧ w.cell? ⟨g, off + i * 4 + 1, none⟩ = some (.int .u8 t) ∧ w.cell? ⟨g, off + i * 4 + 2, none⟩ = some (.int .u8 a) ∧ w.cell? ⟨g, off + i * 4 + 3, none⟩ = some (.int .u8 b) := by
  obtain ⟨A', c', e0, h1, h2, h3⟩ := h
  injection e0 with e1 e2 e3
  subst e1
  obtain ⟨g, off, rfl, hb, hc⟩ := h3 (by omega)
  have hd := List.getElem?_eq_getElem hi
  rw [e] at hd
  exact ⟨g, off, rfl, hb, hc i _ hd 0 _ rfl, hc i _ hd 1 _ rfl, hc i _ hd 2 _ rfl, hc i _ hd 3 _ rfl⟩
set_option maxRecDepth 100000 in
theorem open_deed {H : Type} {enc : TypeId × Value → H} {W : World} {base : Nat} {spare : Nat → Bool} {held : Bool} {v : Value} {d : DataW H} {ps : List MemPlace} {r : Reach} {b0 : Nat} (ok : Value.okWide Try.prog W r b0 51 v) (h : DataW.Trod enc Try.prog W base spare held 51 v d ps) :
    ∃ k t a b : Int, v = dv k t a b ∧ DgU ⟨k, t, a, b⟩ := by
  obtain ⟨v0, v1, v2, v3, y0, y1, y2, y3, m, rfl, rfl, rfl, h0, h1, h2, h3⟩ := Joins.open_agg4 Try.underlying51 (by kernel_rfl) (by kernel_rfl) ok h
  obtain ⟨k, hk, _, wk⟩ := DataW.trod_int Try.underlying5 h0
  obtain ⟨t, ht, _, wt⟩ := DataW.trod_int Try.underlying5 h1
  obtain ⟨a, ha, _, wa⟩ := DataW.trod_int Try.underlying5 h2
  obtain ⟨b, hb, _, wb⟩ := DataW.trod_int Try.underlying5 h3
  simp only [List.cons.injEq, and_true] at hk ht ha hb
  subst hk ht ha hb
  have i : ∀ {z : Int}, (Lit.int IntKind.u8 z).wf = true → U8 z := fun w => by simpa [U8, Lit.wf, IntKind.min, IntKind.max, IntKind.signed, IntKind.bits] using w
  exact ⟨k, t, a, b, rfl, i wk, i wt, i wa, i wb⟩
set_option maxRecDepth 100000 in
theorem open_deeds {H : Type} {enc : TypeId × Value → H} {W : World} {base : Nat} {spare : Nat → Bool} {held : Bool} {v : Value} {d : DataW H} {ps : List MemPlace} {r : Reach} {b0 : Nat} (ok : Value.okWide Try.prog W r b0 49 v) (h : DataW.Trod enc Try.prog W base spare held 49 v d ps) :
    ∃ l : List Dg, Dgs W v l ∧ (∀ o ∈ l, DgU o) ∧ ((d = .nil ∧ l = []) ∨ ∃ el rest, d = .slice el rest ∧ el.length = l.length) :=
  sl_of_trod Try.underlying49 (by kernel_rfl) (by decide) (fun _ => rfl) (fun n cs x hx => by
    obtain ⟨y0, y1, y2, y3, m, hx0, hl, h0, h1, h2, h3⟩ := Joins.trod_struct4 Try.underlying51 hx
    have hc : Try.prog.cellsOf 51 = 4 := by kernel_rfl
    rw [hc] at hl
    obtain ⟨k, hk, _, wk⟩ := DataW.trod_int Try.underlying5 h0
    obtain ⟨t, ht, _, wt⟩ := DataW.trod_int Try.underlying5 h1
    obtain ⟨a, ha, _, wa⟩ := DataW.trod_int Try.underlying5 h2
    obtain ⟨b, hb, _, wb⟩ := DataW.trod_int Try.underlying5 h3
    have e1 : Try.prog.cellsOf 5 = 1 := by kernel_rfl
    simp only [e1] at hk ht ha hb
    have i : ∀ {z : Int}, (Lit.int IntKind.u8 z).wf = true → U8 z := fun w => by simpa [U8, Lit.wf, IntKind.min, IntKind.max, IntKind.signed, IntKind.bits] using w
    match cs, hl with
    | [c0, c1, c2, c3], _ =>
      simp only [List.drop_zero, List.drop_succ_cons, List.take_succ_cons, List.take_zero, List.cons.injEq, and_true] at hk ht ha hb
      subst hk ht ha hb
      exact ⟨⟨k, t, a, b⟩, rfl, i wk, i wt, i wa, i wb⟩) ok h
def I64 (x : Int) : Prop := -9223372036854775808 ≤ x ∧ x ≤ 9223372036854775807
set_option maxRecDepth 100000 in
theorem open_ledger {H : Type} {enc : TypeId × Value → H} {W : World} {base : Nat} {spare : Nat → Bool} {held : Bool} {v : Value} {d : DataW H} {ps : List MemPlace} {r : Reach} {b0 : Nat} (ok : Value.okWide Try.prog W r b0 24 v) (h : DataW.Trod enc Try.prog W base spare held 24 v d ps) :
    ∃ (a b c : Int) (u : Value) (l : List Int), v = lv a b c u ∧ Ints W u l ∧ (I64 a ∧ I64 b ∧ I64 c) ∧ ((∀ k ∈ d.weights Try.prog 24, k ≤ 140737488351232) → l.length * 8 ≤ 140737488351232) := by
  obtain ⟨v0, v1, v2, v3, y0, y1, y2, y3, m, rfl, rfl, rfl, h0, h1, h2, h3⟩ := Joins.open_agg4 Try.underlying24 (by kernel_rfl) (by kernel_rfl) ok h
  obtain ⟨a, ha, _, wa⟩ := DataW.trod_int Try.underlying2 h0
  obtain ⟨b, hb, _, wb⟩ := DataW.trod_int Try.underlying2 h1
  obtain ⟨c, hc, _, wc⟩ := DataW.trod_int Try.underlying2 h2
  obtain ⟨u, l, hu, hR⟩ := open_row Try.underlying22 Try.underlying2 (by kernel_rfl) h3
  simp only [List.cons.injEq, and_true] at ha hb hc hu
  subst ha hb hc hu
  have i : ∀ {z : Int}, (Lit.int IntKind.i64 z).wf = true → I64 z := fun w => by simpa [I64, Lit.wf, IntKind.min, IntKind.max, IntKind.signed, IntKind.bits] using w
  refine ⟨a, b, c, v3, l, rfl, hR.1, ⟨i wa, i wb, i wc⟩, fun hw => row_weight Try.underlying22 (by kernel_rfl) hR fun k hk => hw k ?_⟩
  simp only [DataW.weights, Try.underlying24]
  simp only [List.map_cons, List.map_nil, DataW.weightsEach, List.mem_append]
  exact .inr (.inr (.inr (.inl hk)))

/-- the law's ledger, in its box -/
structure XAt (w : World) (B : Nat) (a b c : Int) (v : Value) (l : List Int) (wr : World) : Prop where
  bx : Bx 24 wr B a b c v
  ints : Ints wr v l
  b : Below w.heap.size w wr
  lt : w.heap.size ≤ B
section
variable {w wr w2 : World} {B : Nat} {a b c : Int} {v : Value} {l : List Int}
theorem XAt.below (h : XAt w B a b c v l wr) (hb : Below wr.heap.size wr w2) : XAt w B a b c v l w2 := ⟨h.bx.below hb, h.ints.below hb, bcall h.b hb, h.lt⟩
theorem XAt.drew (h : XAt w B a b c v l wr) : XAt w B a b c v l wr.drew := ⟨⟨h.bx.blk⟩, h.ints, ⟨h.b.os, h.b.tape, h.b.output, h.b.size, h.b.block⟩, h.lt⟩
theorem XAt.all (h : XAt w B a b c v l wr) : wr.cell? ⟨B, 0, none⟩ = some (.int .i64 a) ∧ wr.cell? ⟨B, 1, none⟩ = some (.int .i64 b) ∧ wr.cell? ⟨B, 2, none⟩ = some (.int .i64 c) ∧ wr.cell? ⟨B, 3, none⟩ = some v := h.bx.all
theorem XAt.free (h : XAt w B a b c v l wr) : wr.frozen? ⟨B, 0, none⟩ = false ∧ wr.frozen? ⟨B, 1, none⟩ = false ∧ wr.frozen? ⟨B, 2, none⟩ = false ∧ wr.frozen? ⟨B, 3, none⟩ = false := h.bx.free
theorem XAt.next (h : XAt w B a b c v l wr) (hb : Below wr.heap.size wr w2) {v' : Value} {l' : List Int} (ho : OwnB wr.heap.size w2 v' l') (a' b' c' : Int) :
    ∃ w3, (((w2.setCell ⟨B, 0, none⟩ (.int .i64 a')).setCell ⟨B, 1, none⟩ (.int .i64 b')).setCell ⟨B, 2, none⟩ (.int .i64 c')).setCell ⟨B, 3, none⟩ v' = w3 ∧ XAt w B a' b' c' v' l' w3 ∧ w3.heap.size = w2.heap.size := by
  have hB := h.bx.lt
  refine ⟨_, rfl, ⟨((((h.bx.below hb).put0 a').put1 b').put2 c').put3 v', ?_, ?_, h.lt⟩, by simp only [set_size]⟩
  · refine OwnB.ints (base := wr.heap.size) ?_
    repeat (first | (with_reducible exact ho) | (with_reducible refine ownsRow_setCell_below ?_ (by exact hB) _))
  · have h1 := bcall h.b hb
    have h2 := h.lt
    repeat (first | (with_reducible exact h1) | (with_reducible refine bset ?_ _ _ h2 _))
end
theorem do_w (k x n q : Int) (hU : DgU ⟨k, x, n, q⟩) (a b c : Int) (v : Value) (l : List Int) (w : World) (h : Ints w v l) (hbig : l.length * 8 ≤ 140737488351232) (a1 b1 c1 : Int) (l1 : List Int) (N : Nat) (hR : lDo ⟨a, b, c, l⟩ k x n q = ⟨a1, b1, c1, l1⟩) (hN : l1.length = N) :
    Calls Try.prog 27 #[dv k x n q, lv a b c v] w fun e w' => ∃ A m, e = .returned (lv a1 b1 c1 (.slice A N m)) ∧ (N ≤ m ∧ m ≤ 9223372036854775807) ∧ OwnB w.heap.size w' (.slice A N m) l1 ∧ Below w.heap.size w w' := by
  refine (do_any k x n q hU.1 hU.2.1 hU.2.2.1 hU.2.2.2 a b c v l w h hbig ⟨a1, b1, c1, l1⟩ hR).mono ?_
  rintro e w' ⟨v', rfl, ho, hb⟩
  subst hN
  obtain ⟨A, m, rfl, h1, h2⟩ := own_form ho
  exact ⟨A, m, rfl, ⟨h1, by unfold maxLen at h2; omega⟩, ho, hb⟩
theorem own_atN {base N : Nat} {w : World} {v : Value} {l : List Int} (hN : l.length = N) (h : w.ownsRow base 2 1 v N (l.flatMap ic)) {j : Nat} (hj : j < l.length) :
    ∃ g c, v = .slice (some ⟨g, 0, none⟩) N c ∧ N ≤ c ∧ c ≤ 9223372036854775807 ∧ base ≤ g ∧ g < w.heap.size := by
  subst hN
  obtain ⟨g, c, e, h1, h2, h3, h4, -, -⟩ := own_at h hj
  exact ⟨g, c, e, h1, h2, h3, h4⟩
theorem own_cell {base g N c : Nat} {w : World} {l : List Int} (h : w.ownsRow base 2 1 (.slice (some ⟨g, 0, none⟩) N c) N (l.flatMap ic)) {j : Nat} (hj : j < l.length) (hN : l.length = N) : w.cell? ⟨g, j, none⟩ = some (.int .i64 l[j]) ∧ w.frozen? ⟨g, j, none⟩ = false := by
  have hx := h.cellAt j (by omega)
  rw [ic_get l j hj] at hx
  exact ⟨hx, h.frozenAt j⟩
theorem ints_ofN {base N : Nat} {w : World} {v : Value} {l : List Int} (hN : l.length = N) (h : w.ownsRow base 2 1 v N (l.flatMap ic)) : Ints w v l := by subst hN; exact OwnB.ints h
theorem Bx.other {t : TypeId} {w : World} {B g o : Nat} {a b c : Int} {v : Value} (h : Bx t w B a b c v) (x : Value) (hne : B ≠ g) : Bx t (w.setCell ⟨g, o, none⟩ x) B a b c v :=
  ⟨(Below.heap_setCell w ⟨g, o, none⟩ x B hne).trans h.blk⟩
theorem Bx.drew {t : TypeId} {w : World} {B : Nat} {a b c : Int} {v : Value} (h : Bx t w B a b c v) : Bx t w.drew B a b c v := ⟨h.blk⟩
/-- the law's run, up to here -/
structure At (m : Nat) (ds : List Dg) (X : Nat) (a b c : Int) (l : List Int) : Prop where
  run : lRun (lNew m) (ds.take X) = ⟨a, b, c, l⟩
theorem At.start {m : Nat} (hm : m ≤ 16) (ds : List Dg) : At m ds 0 0 0 0 (List.replicate m 0) := ⟨by
  rw [List.take_zero]
  show lNew m = _
  unfold lNew
  rw [show (min (max (m : Int) 0) 16).toNat = m by omega]⟩
theorem At.next {m X : Nat} {ds : List Dg} {a b c a1 b1 c1 : Int} {l l1 : List Int} {k x n q : Int} (h : At m ds X a b c l) (hX : X < ds.length) (e : ds[X] = ⟨k, x, n, q⟩) (hR : lDo ⟨a, b, c, l⟩ k x n q = ⟨a1, b1, c1, l1⟩) : At m ds (X + 1) a1 b1 c1 l1 := ⟨by
  rw [lRun_take _ _ _ hX, e, h.run]; exact hR⟩
theorem At.inv {m X : Nat} {ds : List Dg} {a b c : Int} {l : List Int} (h : At m ds X a b c l) (hm : m ≤ 16) (hX : X ≤ ds.length) (hX2 : X ≤ 300) : LInv X m ⟨a, b, c, l⟩ := by
  have h0 : LInv 0 m (lNew m) := linv_new (m : Int) (by omega) (by omega)
  have := lRun_inv ds X hX (by omega) h0
  rw [h.run] at this; exact this
end Go.Proofs.Ytgbkphgclpgppaa
