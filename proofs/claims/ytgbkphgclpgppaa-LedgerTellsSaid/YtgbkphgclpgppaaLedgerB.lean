/- Layer ledger: a ledger as a value, and in a box; balances of the call's own. -/
import Derived.Test.YtgbkphgclpgppaaGrid
import Derived.Test.YtgbkphgclpgppaaLedgerP
import Derived.Lib.SliceRun
import Derived.Lib.SmallJoins
import Derived.OneCell
import Derived.Deep.QuietTactic
import Derived.BigQuiet
namespace Go.Proofs.Ytgbkphgclpgppaa
open Go.RowKit Go.Joins

abbrev lv (a b c : Int) (v : Value) : Value := .agg #[.int .i64 a, .int .i64 b, .int .i64 c, v]
theorem bal (w : World) (o : Obj) : Below w.heap.size w (w.alloc o) := (Below.refl _ _).alloc (Nat.le_refl _) o
theorem keepc {a b : World} {p : Addr} {v : Value} (hb : Below a.heap.size a b) (h : a.cell? p = some v) : b.cell? p = some v := by
  rw [hb.cell (World.block_lt_of_cell? _ _ h)]; exact h
theorem keepf {a b : World} {p : Addr} {v : Value} (hb : Below a.heap.size a b) (h : a.cell? p = some v) (hf : a.frozen? p = false) : b.frozen? p = false := by
  rw [hb.frozen (World.block_lt_of_cell? _ _ h)]; exact hf
theorem bset {n : Nat} {a w : World} (h : Below n a w) (b o : Nat) (hb : n ≤ b) (v : Value) : Below n a (w.setCell ⟨b, o, none⟩ v) := h.setCell (p := ⟨b, o, none⟩) hb v
/-- block B has a ledger -/
structure Bx (t : TypeId) (w : World) (B : Nat) (a b c : Int) (v : Value) : Prop where
  blk : w.heap[B]? = some (.cells #[.int .i64 a, .int .i64 b, .int .i64 c, v] t)
section
variable {t : TypeId} {w w' : World} {B : Nat} {a b c : Int} {v : Value}
theorem Bx.lt (h : Bx t w B a b c v) : B < w.heap.size := (Array.getElem?_eq_some_iff.1 h.blk).1
theorem Bx.below (h : Bx t w B a b c v) (hb : Below w.heap.size w w') : Bx t w' B a b c v := ⟨(hb.block B h.lt).trans h.blk⟩
theorem Bx.all (h : Bx t w B a b c v) : w.cell? ⟨B, 0, none⟩ = some (.int .i64 a) ∧ w.cell? ⟨B, 1, none⟩ = some (.int .i64 b) ∧ w.cell? ⟨B, 2, none⟩ = some (.int .i64 c) ∧ w.cell? ⟨B, 3, none⟩ = some v :=
  ⟨cell_of_block h.blk 0, cell_of_block h.blk 1, cell_of_block h.blk 2, cell_of_block h.blk 3⟩
theorem Bx.free (h : Bx t w B a b c v) : w.frozen? ⟨B, 0, none⟩ = false ∧ w.frozen? ⟨B, 1, none⟩ = false ∧ w.frozen? ⟨B, 2, none⟩ = false ∧ w.frozen? ⟨B, 3, none⟩ = false :=
  ⟨unfrozen_of_block h.blk 0, unfrozen_of_block h.blk 1, unfrozen_of_block h.blk 2, unfrozen_of_block h.blk 3⟩
end
section
variable {t : TypeId} {w : World} {B : Nat} {a b c : Int} {v : Value}
theorem Bx.put0 (h : Bx t w B a b c v) (x : Int) : Bx t (w.setCell ⟨B, 0, none⟩ (.int .i64 x)) B x b c v := ⟨by rw [block_setCell h.blk]; rfl⟩
theorem Bx.put1 (h : Bx t w B a b c v) (x : Int) : Bx t (w.setCell ⟨B, 1, none⟩ (.int .i64 x)) B a x c v := ⟨by rw [block_setCell h.blk]; rfl⟩
theorem Bx.put2 (h : Bx t w B a b c v) (x : Int) : Bx t (w.setCell ⟨B, 2, none⟩ (.int .i64 x)) B a b x v := ⟨by rw [block_setCell h.blk]; rfl⟩
theorem Bx.put3 (h : Bx t w B a b c v) (u : Value) : Bx t (w.setCell ⟨B, 3, none⟩ u) B a b c u := ⟨by rw [block_setCell h.blk]; rfl⟩
end
theorem set_size (w : World) (p : Addr) (v : Value) : (w.setCell p v).heap.size = w.heap.size := by simp [World.setCell]
theorem lbox (w : World) (a b c : Int) (v : Value) (t : TypeId) : ∃ w1, w.alloc (.cells #[.int .i64 a, .int .i64 b, .int .i64 c, v] t) = w1 ∧ Below w.heap.size w w1 ∧ w1.heap.size = w.heap.size + 1 ∧ Bx t w1 w.heap.size a b c v :=
  ⟨_, rfl, bal _ _, by simp, ⟨heap_alloc_new w _⟩⟩
theorem lbox2 (w : World) (a b c : Int) (v : Value) (t : TypeId) (a' b' c' : Int) (v' : Value) (t' : TypeId) : ∃ w1, (w.alloc (.cells #[.int .i64 a, .int .i64 b, .int .i64 c, v] t)).alloc (.cells #[.int .i64 a', .int .i64 b', .int .i64 c', v'] t') = w1 ∧ Below w.heap.size w w1 ∧ w1.heap.size = w.heap.size + 2 ∧ Bx t w1 w.heap.size a b c v ∧ Bx t' w1 (w.heap.size + 1) a' b' c' v' := by
  obtain ⟨w0, e0, hB, hs0, h0⟩ := lbox w a b c v t
  obtain ⟨w1, e1, hB1, hs1, h1⟩ := lbox w0 a' b' c' v' t'
  rw [hs0] at h1
  exact ⟨w1, by rw [e0, e1], bcall hB hB1, by omega, h0.below hB1, h1⟩

theorem row_drew {base : Nat} {e : TypeId} {size n : Nat} {w : World} {v : Value} {xs : List Value} (h : w.ownsRow base e size v n xs) : w.drew.ownsRow base e size v n xs := h
/-- a row of the call's own that reads as l -/
abbrev OwnB (base : Nat) (w : World) (v : Value) (l : List Int) : Prop := w.ownsRow base 2 1 v l.length (l.flatMap ic)
theorem OwnB.ints {base : Nat} {w : World} {v : Value} {l : List Int} (h : OwnB base w v l) : Ints w v l := Sl.of_own ic_len h
theorem ic_set : ∀ (l : List Int) (s : Nat) (x : Int), (l.set s x).flatMap ic = (l.flatMap ic).set s (.int .i64 x)
  | [], _, _ => rfl
  | _ :: _, 0, _ => rfl
  | y :: l, s + 1, x => by
    show ic y ++ (l.set s x).flatMap ic = (ic y ++ l.flatMap ic).set (s + 1) _
    rw [ic_set l s x]; rfl
theorem ic_get (l : List Int) (j : Nat) (h : j < l.length) : (l.flatMap ic)[j]? = some (.int .i64 l[j]) := by
  have := flatMap_get ic_len l j l[j] (List.getElem?_eq_getElem h) 0 (.int .i64 l[j]) rfl
  simpa using this
theorem own_store {base g n c : Nat} {w : World} {m : List Int} (hown : w.ownsRow base 2 1 (.slice (some ⟨g, 0, none⟩) n c) n (m.flatMap ic)) (j : Nat) (x : Int) :
    (w.setCell ⟨g, j, none⟩ (.int .i64 x)).ownsRow base 2 1 (.slice (some ⟨g, 0, none⟩) n c) n ((m.set j x).flatMap ic) := by
  rw [ic_set]; exact (hown.stored j (.int .i64 x)).1
/-- a row that is not empty: where it lies, what is in it -/
theorem own_at {base : Nat} {w : World} {v : Value} {l : List Int} (h : OwnB base w v l) {j : Nat} (hj : j < l.length) :
    ∃ g c, v = .slice (some ⟨g, 0, none⟩) l.length c ∧ l.length ≤ c ∧ c ≤ 9223372036854775807 ∧ base ≤ g ∧ g < w.heap.size ∧ w.cell? ⟨g, j, none⟩ = some (.int .i64 l[j]) ∧ w.frozen? ⟨g, j, none⟩ = false := by
  obtain ⟨A, c, rfl, h1, h2⟩ := own_form h
  unfold maxLen at h2
  obtain ⟨g, rfl⟩ : ∃ g, A = some ⟨g, 0, none⟩ := by
    rcases h.2 with ⟨h, h0⟩ | ⟨g, cap, cur, h, _⟩
    · omega
    · injection h with h; exact ⟨g, h⟩
  have hx := h.cellAt j (by omega)
  rw [ic_get l j hj] at hx
  have hl := h.lt g rfl
  exact ⟨g, c, rfl, h1, by omega, hl.1, hl.2, hx, h.frozenAt j⟩
theorem infoI : (Try.prog.info? 2).map (fun i => (i.zero, i.size, i.bytes)) = some (some (.int .i64 0), 1, 8) := by kernel_rfl

set_option maxHeartbeats 1000000 in
theorem Clone_any (v : Value) (l : List Int) (w : World) (h : Ints w v l) (hbig : l.length * 8 ≤ 140737488351232) :
    Calls Try.prog 40 #[v] w fun e w' => ∃ v', e = .returned v' ∧ OwnB w.heap.size w' v' l ∧ Below w.heap.size w w' := by
  obtain ⟨i0, hi, hz0, hz1, hz2⟩ := info_parts infoI
  have qn : ∀ (w : World) (a : Option Addr) (n c n' c' : Nat), (binOp .eql 22 (.slice a n c) (.slice none n' c')).run Try.prog w = .ok (.bool a.isNone) w := fun w a n c n' c' => Lib.run_eql_slice_nil w _ _ a n c n' c' Try.underlying22
  have HL := hide h
  obtain ⟨A, c, rfl, h1, h2, h3⟩ := h
  unfold maxLen at h2
  rcases A with _ | a
  · have h0 : l = [] := by
      rcases Nat.eq_zero_or_pos l.length with h0 | h0
      · exact List.eq_nil_of_length_eq_zero h0
      · obtain ⟨b, off, h, _⟩ := h3 h0; cases h
    subst h0
    clear h3
    go_enter Try.func40, Try.ntmps40
    go_wp2
    go_ret
    exact ⟨_, rfl, World.ownsRow_nil _ _ _ _, Below.refl _ _⟩
  · clear h3
    go_enter Try.func40, Try.ntmps40
    go_wp2_with (at_builtin; refine wpList_append_sl _ rfl _ _ 22 rfl w.heap.size 2 i0 (.int .i64 0) 1 8 Try.underlying22 hi hz0 hz1 hz2 rfl (by decide) _ _ _ rfl (World.ownsRow_made w #[] 0 (Nat.le_refl _) (Nat.zero_le _) rfl) _ l rfl (HL.out.alloc _) ic_len (fun _ u hu => by simp [ic] at hu; subst hu; rfl) (by unfold maxLen; omega) (by omega) (by simp) ?_)
    intro v' w1 hown hb
    go_wp2
    go_ret
    exact ⟨v', rfl, by simpa using hown, (bal _ _).trans hb⟩

set_option maxHeartbeats 2000000 in
theorem Equal_any (va vb : Value) (a b : List Int) (w : World) (ha : Ints w va a) (hb : Ints w vb b) :
    Calls Try.prog 39 #[va, vb] w fun e w' => e = .returned (.bool (decide (a = b))) ∧ Below w.heap.size w w' := by
  have ha' := ha
  have hb' := hb
  obtain ⟨A, c, rfl, h1, h2, -⟩ := ha'
  obtain ⟨B, d, rfl, h3, h4, -⟩ := hb'
  unfold maxLen at h2 h4
  have HA := hide ha
  have HB := hide hb
  clear ha hb
  by_cases hn : a.length = b.length
  · have q : (((a.length : Int)) != ((b.length : Int))) = false := by rw [bne_eq_false_iff_eq]; omega
    have HN := hide hn
    clear hn
    go_enter Try.func39, Try.ntmps39
    go_wp2
    go_loopw [13] (fun i wr => ∃ k : Nat, k ≤ a.length ∧ i = .int .i64 k ∧ Below w.heap.size w wr ∧ Hid (a.take k = b.take k)) (fun i _ => a.length - (Go.RowKit.intOf i).toNat)
    case atStart => exact ⟨0, Nat.zero_le _, rfl, Below.refl _ _, hide (by simp)⟩
    case round =>
      obtain ⟨k, hk, rfl, hbw, HE⟩ := hrel
      by_cases hlt : k < a.length
      · have hlb : k < b.length := by have := HN.out; omega
        obtain ⟨b1, o1, rfl, -, c0⟩ := ints_at (HA.out.below hbw) hlt
        obtain ⟨b2, o2, rfl, -, c2⟩ := ints_at (HB.out.below hbw) hlb
        by_cases he : a[k] = b[k]
        · have e1 : (a[k] != b[k]) = false := by rw [bne_eq_false_iff_eq]; exact he
          have HE' := hide (show a.take (k + 1) = b.take (k + 1) by rw [List.take_succ_eq_append_getElem hlt, List.take_succ_eq_append_getElem hlb, HE.out, he])
          clear he
          generalize a[k] = x at *
          generalize b[k] = y at *
          go_wp2
          go_quiet (fail)
          go_wp2
          go_roundw
          case rel => exact ⟨k + 1, by omega, by go_num, bdrewN hbw _, HE'⟩
          case measure => simp [Go.RowKit.intOf]; omega
        · have e1 : (a[k] != b[k]) = true := by rw [bne_iff_ne]; exact he
          have HF := hide (show decide (a = b) = false by
            simp only [decide_eq_false_iff_not]
            intro h
            apply he
            simp [h])
          clear he
          generalize a[k] = x at *
          generalize b[k] = y at *
          go_wp2
          go_quiet (fail)
          go_wp2
          go_ret
          exact ⟨ret_bool HF.out.symm, bdrewN hbw _⟩
      · have HF := hide (show a = b by
          have h := HE.out
          have := HN.out
          rwa [List.take_of_length_le (by omega), List.take_of_length_le (by omega)] at h)
        go_wp2
        go_ret
        exact ⟨ret_bool (by rw [HF.out]; simp), hbw⟩
  · have q : (((a.length : Int)) != ((b.length : Int))) = true := by rw [bne_iff_ne]; omega
    have HN := hide (show decide (a = b) = false by simp; intro e; exact hn (by rw [e]))
    clear hn
    go_enter Try.func39, Try.ntmps39
    go_wp2
    go_ret
    exact ⟨ret_bool HN.out.symm, Below.refl _ _⟩
end Go.Proofs.Ytgbkphgclpgppaa
