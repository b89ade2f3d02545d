import Derived.Lib.SliceRun
import Derived.Lib.SmallJoins
import Derived.OneCell
import Derived.Deep.QuietTactic
import Derived.BigQuiet
import Derived.Deep.Cut
import Derived.Test.YtdmbcjckgfjcaaaGreatDoorRaf
/- Layer ledger: a ledger as a value, and in a box; balances of the call's own. -/
namespace Go.Proofs.YtdmbcjckgfjcaaaGreatDoor
open Go.RowKit Go.Joins
abbrev lv (a b c : Int) (v : Value) : Value := .agg #[.int .i64 a, .int .i64 b, .int .i64 c, v]
theorem balLe (w : World) (o : Obj) : Below w.heap.size w (w.alloc o) := (Below.refl _ _).alloc (Nat.le_refl _) o
theorem bsetLe {n : Nat} {a w : World} (h : Below n a w) (b o : Nat) (hb : n ≤ b) (v : Value) : Below n a (w.setCell ⟨b, o, none⟩ v) := h.setCell (p := ⟨b, o, none⟩) hb v
/-- block B has a ledger -/
structure BxLe (t : TypeId) (w : World) (B : Nat) (a b c : Int) (v : Value) : Prop where
  blk : w.heap[B]? = some (.cells #[.int .i64 a, .int .i64 b, .int .i64 c, v] t)
section
variable {t : TypeId} {w w' : World} {B : Nat} {a b c : Int} {v : Value}
theorem BxLe.lt (h : BxLe t w B a b c v) : B < w.heap.size := (Array.getElem?_eq_some_iff.1 h.blk).1
theorem BxLe.below (h : BxLe t w B a b c v) (hb : Below w.heap.size w w') : BxLe t w' B a b c v := ⟨(hb.block B h.lt).trans h.blk⟩
theorem BxLe.all (h : BxLe t w B a b c v) : w.cell? ⟨B, 0, none⟩ = some (.int .i64 a) ∧ w.cell? ⟨B, 1, none⟩ = some (.int .i64 b) ∧ w.cell? ⟨B, 2, none⟩ = some (.int .i64 c) ∧ w.cell? ⟨B, 3, none⟩ = some v :=
  ⟨cell_of_block h.blk 0, cell_of_block h.blk 1, cell_of_block h.blk 2, cell_of_block h.blk 3⟩
theorem BxLe.free (h : BxLe t w B a b c v) : w.frozen? ⟨B, 0, none⟩ = false ∧ w.frozen? ⟨B, 1, none⟩ = false ∧ w.frozen? ⟨B, 2, none⟩ = false ∧ w.frozen? ⟨B, 3, none⟩ = false :=
  ⟨unfrozen_of_block h.blk 0, unfrozen_of_block h.blk 1, unfrozen_of_block h.blk 2, unfrozen_of_block h.blk 3⟩
end
section
variable {t : TypeId} {w : World} {B : Nat} {a b c : Int} {v : Value}
theorem BxLe.put0 (h : BxLe t w B a b c v) (x : Int) : BxLe t (w.setCell ⟨B, 0, none⟩ (.int .i64 x)) B x b c v := ⟨by rw [block_setCell h.blk]; rfl⟩
theorem BxLe.put1 (h : BxLe t w B a b c v) (x : Int) : BxLe t (w.setCell ⟨B, 1, none⟩ (.int .i64 x)) B a x c v := ⟨by rw [block_setCell h.blk]; rfl⟩
theorem BxLe.put2 (h : BxLe t w B a b c v) (x : Int) : BxLe t (w.setCell ⟨B, 2, none⟩ (.int .i64 x)) B a b x v := ⟨by rw [block_setCell h.blk]; rfl⟩
theorem BxLe.put3 (h : BxLe t w B a b c v) (u : Value) : BxLe t (w.setCell ⟨B, 3, none⟩ u) B a b c u := ⟨by rw [block_setCell h.blk]; rfl⟩
end
theorem set_sizeLe (w : World) (p : Addr) (v : Value) : (w.setCell p v).heap.size = w.heap.size := by simp [World.setCell]
theorem lbox (w : World) (a b c : Int) (v : Value) (t : TypeId) : ∃ w1, w.alloc (.cells #[.int .i64 a, .int .i64 b, .int .i64 c, v] t) = w1 ∧ Below w.heap.size w w1 ∧ w1.heap.size = w.heap.size + 1 ∧ BxLe t w1 w.heap.size a b c v :=
  ⟨_, rfl, balLe _ _, by simp, ⟨heap_alloc_new w _⟩⟩
theorem lbox2 (w : World) (a b c : Int) (v : Value) (t : TypeId) (a' b' c' : Int) (v' : Value) (t' : TypeId) : ∃ w1, (w.alloc (.cells #[.int .i64 a, .int .i64 b, .int .i64 c, v] t)).alloc (.cells #[.int .i64 a', .int .i64 b', .int .i64 c', v'] t') = w1 ∧ Below w.heap.size w w1 ∧ w1.heap.size = w.heap.size + 2 ∧ BxLe t w1 w.heap.size a b c v ∧ BxLe t' w1 (w.heap.size + 1) a' b' c' v' := by
  obtain ⟨w0, e0, hB, hs0, h0⟩ := lbox w a b c v t
  obtain ⟨w1, e1, hB1, hs1, h1⟩ := lbox w0 a' b' c' v' t'
  rw [hs0] at h1
  exact ⟨w1, by rw [e0, e1], bcall hB hB1, by omega, h0.below hB1, h1⟩
/-- a row of the call's own that reads as l -/
abbrev OwnB (base : Nat) (w : World) (v : Value) (l : List Int) : Prop := w.ownsRow base 2 1 v l.length (l.flatMap ic)
theorem OwnB.ints {base : Nat} {w : World} {v : Value} {l : List Int} (h : OwnB base w v l) : Ints w v l := Sl.of_own ic_len h
theorem infoILe : (Tryz.prog.info? 2).map (fun i => (i.zero, i.size, i.bytes)) = some (some (.int .i64 0), 1, 8) := by kernel_rfl
set_option maxHeartbeats 1000000 in
theorem Clone_any (v : Value) (l : List Int) (w : World) (h : Ints w v l) (hbig : l.length * 8 ≤ 140737488351232) :
    Calls Tryz.prog 85 #[v] w fun e w' => ∃ v', e = .returned v' ∧ OwnB w.heap.size w' v' l ∧ Below w.heap.size w w' := by
  obtain ⟨i0, hi, hz0, hz1, hz2⟩ := info_parts infoILe
  have qn : ∀ (w : World) (a : Option Addr) (n c n' c' : Nat), (binOp .eql 48 (.slice a n c) (.slice none n' c')).run Tryz.prog w = .ok (.bool a.isNone) w := fun w a n c n' c' => Lib.run_eql_slice_nil w _ _ a n c n' c' Tryz.underlying48
  have HL := hide h
  obtain ⟨A, c, rfl, h1, h2, h3⟩ := h
  unfold maxLen at h2
  rcases A with _ | a
  · have h0 : l = [] := by
      rcases Nat.eq_zero_or_pos l.length with h0 | h0
      · exact List.eq_nil_of_length_eq_zero h0
      · obtain ⟨b, off, h, _⟩ := h3 h0; cases h
    subst h0
    clear h3
    go_enter Tryz.func85, Tryz.ntmps85
    go_wp2
    go_ret
    exact ⟨_, rfl, World.ownsRow_nil _ _ _ _, Below.refl _ _⟩
  · clear h3
    go_enter Tryz.func85, Tryz.ntmps85
    go_wp2_with (at_builtin; refine wpList_append_sl _ rfl _ _ 48 rfl w.heap.size 2 i0 (.int .i64 0) 1 8 Tryz.underlying48 hi hz0 hz1 hz2 rfl (by decide) _ _ _ rfl (World.ownsRow_made w #[] 0 (Nat.le_refl _) (Nat.zero_le _) rfl) _ l rfl (HL.out.alloc _) ic_len (fun _ u hu => by simp [ic] at hu; subst hu; rfl) (by unfold maxLen; omega) (by omega) (by simp) ?_)
    intro v' w1 hown hb
    go_wp2
    go_ret
    exact ⟨v', rfl, by simpa using hown, (balLe _ _).trans hb⟩
set_option maxHeartbeats 2000000 in
theorem Equal_any (va vb : Value) (a b : List Int) (w : World) (ha : Ints w va a) (hb : Ints w vb b) :
    Calls Tryz.prog 129 #[va, vb] w fun e w' => e = .returned (.bool (decide (a = b))) ∧ Below w.heap.size w w' := by
  have ha' := ha
  have hb' := hb
  obtain ⟨A, c, rfl, h1, h2, -⟩ := ha'
  obtain ⟨B, d, rfl, h3, h4, -⟩ := hb'
  unfold maxLen at h2 h4
  have HA := hide ha
  have HB := hide hb
  clear ha hb
  by_cases hn : a.length = b.length
  · have q : (((a.length : Int)) != ((b.length : Int))) = false := by rw [bne_eq_false_iff_eq]; omega
    have HN := hide hn
    clear hn
    go_enter Tryz.func129, Tryz.ntmps129
    go_wp2
    go_loopw [13] (fun i wr => ∃ k : Nat, k ≤ a.length ∧ i = .int .i64 k ∧ Below w.heap.size w wr ∧ Hid (a.take k = b.take k)) (fun i _ => a.length - (Go.RowKit.intOf i).toNat)
    case atStart => exact ⟨0, Nat.zero_le _, rfl, Below.refl _ _, hide (by simp)⟩
    case round =>
      obtain ⟨k, hk, rfl, hbw, HE⟩ := hrel
      by_cases hlt : k < a.length
      · have hlb : k < b.length := by have := HN.out; omega
        obtain ⟨b1, o1, rfl, -, c0⟩ := ints_at (HA.out.below hbw) hlt
        obtain ⟨b2, o2, rfl, -, c2⟩ := ints_at (HB.out.below hbw) hlb
        by_cases he : a[k] = b[k]
        · have e1 : (a[k] != b[k]) = false := by rw [bne_eq_false_iff_eq]; exact he
          have HE' := hide (show a.take (k + 1) = b.take (k + 1) by rw [List.take_succ_eq_append_getElem hlt, List.take_succ_eq_append_getElem hlb, HE.out, he])
          clear he
          generalize a[k] = x at *
          generalize b[k] = y at *
          go_wp2
          go_quiet (fail)
          go_wp2
          go_roundw
          case rel => exact ⟨k + 1, by omega, by go_num, bdrewN hbw _, HE'⟩
          case measure => simp [Go.RowKit.intOf]; omega
        · have e1 : (a[k] != b[k]) = true := by rw [bne_iff_ne]; exact he
          have HF := hide (show decide (a = b) = false by
            simp only [decide_eq_false_iff_not]
            intro h
            apply he
            simp [h])
          clear he
          generalize a[k] = x at *
          generalize b[k] = y at *
          go_wp2
          go_quiet (fail)
          go_wp2
          go_ret
          exact ⟨ret_bool HF.out.symm, bdrewN hbw _⟩
      · have HF := hide (show a = b by
          have h := HE.out
          have := HN.out
          rwa [List.take_of_length_le (by omega), List.take_of_length_le (by omega)] at h)
        go_wp2
        go_ret
        exact ⟨ret_bool (by rw [HF.out]; simp), hbw⟩
  · have q : (((a.length : Int)) != ((b.length : Int))) = true := by rw [bne_iff_ne]; omega
    have HN := hide (show decide (a = b) = false by simp; intro e; exact hn (by rw [e]))
    clear hn
    go_enter Tryz.func129, Tryz.ntmps129
    go_wp2
    go_ret
    exact ⟨ret_bool HN.out.symm, Below.refl _ _⟩
end Go.Proofs.YtdmbcjckgfjcaaaGreatDoor
/- Layer ledger: Same, Right, New. -/
namespace Go.Proofs.YtdmbcjckgfjcaaaGreatDoor
open Go.RowKit
set_option maxRecDepth 100000 in
set_option maxHeartbeats 1000000 in
theorem Same_anyLe (a b c : Int) (v : Value) (l : List Int) (a' b' c' : Int) (v' : Value) (l' : List Int) (w : World) (h1 : Ints w v l) (h2 : Ints w v' l') :
    Calls Tryz.prog 76 #[lv a b c v, lv a' b' c' v'] w fun e w' => e = .returned (.bool (lSame ⟨a, b, c, l⟩ ⟨a', b', c', l'⟩)) ∧ Below w.heap.size w w' := by
  by_cases h0 : a = a'
  · by_cases hh1 : b = b'
    · by_cases hh2 : c = c'
      · have EF := hide (show lSame ⟨a, b, c, l⟩ ⟨a', b', c', l'⟩ = decide (l = l') by unfold lSame; simp [h0, hh1, hh2])
        have e_0 : (a == a') = true := by simp [h0]
        have e_1 : (b == b') = true := by simp [hh1]
        have e_2 : (c == c') = true := by simp [hh2]
        have HI := hide h1
        have HJ := hide h2
        have hB : Below w.heap.size w w := Below.refl _ _
        obtain ⟨w1, e1, hb1, hs1, X, Y⟩ := lbox2 w a b c v 61 a' b' c' v' 61
        have HE1 := hide e1
        have HI := hide (HI.out.below hb1)
        have HJ := hide (HJ.out.below hb1)
        replace hB := bcall hB hb1
        obtain ⟨A, n, rfl, hn1, hn2, -⟩ := id h1
        obtain ⟨D, m, rfl, hm1, hm2, -⟩ := id h2
        unfold maxLen at hn2 hm2
        clear h1 h2 e1
        obtain ⟨X0, X1, X2, X3⟩ := X.all
        obtain ⟨Y0, Y1, Y2, Y3⟩ := Y.all
        clear X Y
        clear h0 hh1 hh2
        go_enter Tryz.func76, Tryz.ntmps76
        go_wp2_with fail
        rw [HE1.out]
        (with_reducible refine (Equal_any _ _ l l' _ HI.out HJ.out).mono ?_)
        rintro e w2 ⟨rfl, hb2⟩
        replace hB := bcall hB hb2
        go_wp2
        go_ret
        exact ⟨ret_bool EF.out.symm, hB⟩
      · have EF := hide (show lSame ⟨a, b, c, l⟩ ⟨a', b', c', l'⟩ = false by unfold lSame; simp [h0, hh1, hh2])
        have e_0 : (a == a') = true := by simp [h0]
        have e_1 : (b == b') = true := by simp [hh1]
        have e_2 : (c == c') = false := by simp [hh2]
        have HI := hide h1
        have HJ := hide h2
        have hB : Below w.heap.size w w := Below.refl _ _
        obtain ⟨w1, e1, hb1, hs1, X, Y⟩ := lbox2 w a b c v 61 a' b' c' v' 61
        have HE1 := hide e1
        have HI := hide (HI.out.below hb1)
        have HJ := hide (HJ.out.below hb1)
        replace hB := bcall hB hb1
        obtain ⟨A, n, rfl, hn1, hn2, -⟩ := id h1
        obtain ⟨D, m, rfl, hm1, hm2, -⟩ := id h2
        unfold maxLen at hn2 hm2
        clear h1 h2 e1
        obtain ⟨X0, X1, X2, X3⟩ := X.all
        obtain ⟨Y0, Y1, Y2, Y3⟩ := Y.all
        clear X Y
        clear h0 hh1 hh2
        go_enter Tryz.func76, Tryz.ntmps76
        go_wp2
        (try rw [HE1.out])
        go_ret
        exact ⟨ret_bool EF.out.symm, hB⟩
    · have EF := hide (show lSame ⟨a, b, c, l⟩ ⟨a', b', c', l'⟩ = false by unfold lSame; simp [h0, hh1])
      have e_0 : (a == a') = true := by simp [h0]
      have e_1 : (b == b') = false := by simp [hh1]
      have HI := hide h1
      have HJ := hide h2
      have hB : Below w.heap.size w w := Below.refl _ _
      obtain ⟨w1, e1, hb1, hs1, X, Y⟩ := lbox2 w a b c v 61 a' b' c' v' 61
      have HE1 := hide e1
      have HI := hide (HI.out.below hb1)
      have HJ := hide (HJ.out.below hb1)
      replace hB := bcall hB hb1
      obtain ⟨A, n, rfl, hn1, hn2, -⟩ := id h1
      obtain ⟨D, m, rfl, hm1, hm2, -⟩ := id h2
      unfold maxLen at hn2 hm2
      clear h1 h2 e1
      obtain ⟨X0, X1, X2, X3⟩ := X.all
      obtain ⟨Y0, Y1, Y2, Y3⟩ := Y.all
      clear X Y
      clear h0 hh1
      go_enter Tryz.func76, Tryz.ntmps76
      go_wp2
      (try rw [HE1.out])
      go_ret
      exact ⟨ret_bool EF.out.symm, hB⟩
  · have EF := hide (show lSame ⟨a, b, c, l⟩ ⟨a', b', c', l'⟩ = false by unfold lSame; simp [h0])
    have e_0 : (a == a') = false := by simp [h0]
    have HI := hide h1
    have HJ := hide h2
    have hB : Below w.heap.size w w := Below.refl _ _
    obtain ⟨w1, e1, hb1, hs1, X, Y⟩ := lbox2 w a b c v 61 a' b' c' v' 61
    have HE1 := hide e1
    have HI := hide (HI.out.below hb1)
    have HJ := hide (HJ.out.below hb1)
    replace hB := bcall hB hb1
    obtain ⟨A, n, rfl, hn1, hn2, -⟩ := id h1
    obtain ⟨D, m, rfl, hm1, hm2, -⟩ := id h2
    unfold maxLen at hn2 hm2
    clear h1 h2 e1
    obtain ⟨X0, X1, X2, X3⟩ := X.all
    obtain ⟨Y0, Y1, Y2, Y3⟩ := Y.all
    clear X Y
    clear h0
    go_enter Tryz.func76, Tryz.ntmps76
    go_wp2
    (try rw [HE1.out])
    go_ret
    exact ⟨ret_bool EF.out.symm, hB⟩
theorem ic_map' (l : List Int) : l.flatMap ic = l.map (Value.int .i64) := (ic_map l).symm
theorem madeI (N : Nat) : (madeCells #[Value.int .i64 0] N).toList = (List.replicate N (0 : Int)).flatMap ic := by
  rw [ic_map', List.map_replicate, toList_madeCells_one]
/-- balances that were made -/
def zi (n : Nat) : Obj := .cells (madeCells #[Value.int .i64 0] n) 2
theorem run_zero (n : Nat) (z : Int) (hz : (n : Int) = z) (hn : n ≤ 1000) (w : World) : (Instr.makeSlice 48 (.int .i64 z) (.int .i64 z)).run Tryz.prog w = .ok (.slice (some ⟨w.heap.size, 0, none⟩) n n) (w.alloc (zi n)) := by
  subst hz
  obtain ⟨i0, hi, hz0, hz1, hz2⟩ := info_parts infoILe
  have h := run_makeSlice (P := Tryz.prog) (w := w) 48 2 i0 (.int .i64 0) Tryz.underlying48 hi hz0 .i64 .i64 (n : Int) (n : Int) (by omega) (Int.le_refl _) (by rw [hz1]; simp; omega) (by rw [hz2]; omega) (by omega)
  rw [hz1] at h
  have e : (Value.int .i64 0).cells = #[Value.int .i64 0] := rfl
  rw [e] at h
  simpa [zi] using h
theorem zi_own (w : World) (n : Nat) (hn : n ≤ 1000) : OwnB w.heap.size (w.alloc (zi n)) (.slice (some ⟨w.heap.size, 0, none⟩) n n) (List.replicate n 0) := by
  have h := World.ownsRow_lit w (madeCells #[Value.int .i64 0] n) n (base := w.heap.size) (e := 2) (size := 1) (Nat.le_refl _) (by unfold maxLen; omega) (by rw [size_madeCells, Nat.mul_one])
  rw [madeI] at h
  show World.ownsRow _ _ _ _ _ _ _
  rw [List.length_replicate]; exact h
theorem zi_at (w : World) (n : Nat) {B : Nat} (hn : n ≤ 1000) (h : w.heap.size = B) : OwnB B (w.alloc (zi n)) (.slice (some ⟨B, 0, none⟩) n n) (List.replicate n 0) := by subst h; exact zi_own w n hn
set_option maxRecDepth 100000 in
set_option maxHeartbeats 1000000 in
theorem New_neg (m : Int) (hm : m < 0) (w : World) :
    Calls Tryz.prog 58 #[.int .i64 m] w fun e w' => ∃ v, e = .returned (lv 0 0 0 v) ∧ OwnB w.heap.size w' v (lNew m).bal ∧ Below w.heap.size w w' := by
  have HN := hide (show (min (max m 0) 16).toNat = 0 by omega)
  have mk := run_zero 0 0 rfl (by omega)
  obtain ⟨w1, e1, hb1, hs1, X⟩ := lbox w 0 0 0 (.slice none 0 0) 61
  have HE1 := hide e1
  have hB := hb1
  have v0 : w1.heap.size = w.heap.size + 1 := hs1
  obtain ⟨P00, P01, P02, P03⟩ := ((X).below (balLe _ (zi 0))).all
  obtain ⟨Q00, Q01, Q02, Q03⟩ := ((X).below (balLe _ (zi 0))).free
  obtain ⟨P10, P11, P12, P13⟩ := ((X.put0 0).below (balLe _ (zi 0))).all
  obtain ⟨Q10, Q11, Q12, Q13⟩ := ((X.put0 0).below (balLe _ (zi 0))).free
  obtain ⟨P20, P21, P22, P23⟩ := (((X.put0 0).put1 0).below (balLe _ (zi 0))).all
  obtain ⟨Q20, Q21, Q22, Q23⟩ := (((X.put0 0).put1 0).below (balLe _ (zi 0))).free
  obtain ⟨P30, P31, P32, P33⟩ := ((((X.put0 0).put1 0).put2 0).below (balLe _ (zi 0))).all
  obtain ⟨Q30, Q31, Q32, Q33⟩ := ((((X.put0 0).put1 0).put2 0).below (balLe _ (zi 0))).free
  obtain ⟨P40, P41, P42, P43⟩ := (((((X.put0 0).put1 0).put2 0).put3 (.slice (some ⟨w.heap.size + 1, 0, none⟩) 0 0)).below (balLe _ (zi 0))).all
  obtain ⟨Q40, Q41, Q42, Q43⟩ := (((((X.put0 0).put1 0).put2 0).put3 (.slice (some ⟨w.heap.size + 1, 0, none⟩) 0 0)).below (balLe _ (zi 0))).free
  have HZ := hide (fun w2 => zi_at w2 0 (B := w.heap.size + 1) (by omega))
  clear e1 hb1 X
  go_enter Tryz.func58, Tryz.ntmps58
  go_upto_region 1 with (fail)
  rw [HE1.out]
  go_wp2
  refine bodyPost_ret (v := lv 0 0 0 (.slice (some ⟨w.heap.size + 1, 0, none⟩) 0 0)) (by simp [results, Tryz.results58, go_sem, P40, P41, P42, P43]) rfl ⟨_, rfl, ?_, ?_⟩
  · show OwnB _ _ _ (List.replicate _ 0)
    rw [HN.out]
    refine own_base (base := w.heap.size + 1) ?_ (by omega)
    exact HZ.out _ (by simp only [set_sizeLe]; exact v0)
  · refine Below.alloc ?_ (by simp only [set_sizeLe]; omega) _
    repeat (first | (with_reducible exact hB) | (with_reducible refine bsetLe ?_ _ _ (by omega) _) | (with_reducible refine Below.drew ?_))
set_option maxRecDepth 100000 in
set_option maxHeartbeats 1000000 in
theorem New_mid (m : Int) (hm : 0 ≤ m ∧ m ≤ 16) (w : World) :
    Calls Tryz.prog 58 #[.int .i64 m] w fun e w' => ∃ v, e = .returned (lv 0 0 0 v) ∧ OwnB w.heap.size w' v (lNew m).bal ∧ Below w.heap.size w w' := by
  obtain ⟨n, rfl⟩ : ∃ n : Nat, m = n := ⟨m.toNat, by omega⟩
  have hn : n ≤ 16 := by omega
  have HN := hide (show (min (max (n : Int) 0) 16).toNat = n by omega)
  have mk := run_zero n n rfl (by omega)
  obtain ⟨w1, e1, hb1, hs1, X⟩ := lbox w 0 0 0 (.slice none 0 0) 61
  have HE1 := hide e1
  have hB := hb1
  have v0 : w1.heap.size = w.heap.size + 1 := hs1
  obtain ⟨P00, P01, P02, P03⟩ := ((X).below (balLe _ (zi n))).all
  obtain ⟨Q00, Q01, Q02, Q03⟩ := ((X).below (balLe _ (zi n))).free
  obtain ⟨P10, P11, P12, P13⟩ := ((X.put0 0).below (balLe _ (zi n))).all
  obtain ⟨Q10, Q11, Q12, Q13⟩ := ((X.put0 0).below (balLe _ (zi n))).free
  obtain ⟨P20, P21, P22, P23⟩ := (((X.put0 0).put1 0).below (balLe _ (zi n))).all
  obtain ⟨Q20, Q21, Q22, Q23⟩ := (((X.put0 0).put1 0).below (balLe _ (zi n))).free
  obtain ⟨P30, P31, P32, P33⟩ := ((((X.put0 0).put1 0).put2 0).below (balLe _ (zi n))).all
  obtain ⟨Q30, Q31, Q32, Q33⟩ := ((((X.put0 0).put1 0).put2 0).below (balLe _ (zi n))).free
  obtain ⟨P40, P41, P42, P43⟩ := (((((X.put0 0).put1 0).put2 0).put3 (.slice (some ⟨w.heap.size + 1, 0, none⟩) n n)).below (balLe _ (zi n))).all
  obtain ⟨Q40, Q41, Q42, Q43⟩ := (((((X.put0 0).put1 0).put2 0).put3 (.slice (some ⟨w.heap.size + 1, 0, none⟩) n n)).below (balLe _ (zi n))).free
  have HZ := hide (fun w2 => zi_at w2 n (B := w.heap.size + 1) (by omega))
  clear e1 hb1 X
  go_enter Tryz.func58, Tryz.ntmps58
  go_upto_region 1 with (fail)
  rw [HE1.out]
  go_wp2
  refine bodyPost_ret (v := lv 0 0 0 (.slice (some ⟨w.heap.size + 1, 0, none⟩) n n)) (by simp [results, Tryz.results58, go_sem, P40, P41, P42, P43]) rfl ⟨_, rfl, ?_, ?_⟩
  · show OwnB _ _ _ (List.replicate _ 0)
    rw [HN.out]
    refine own_base (base := w.heap.size + 1) ?_ (by omega)
    exact HZ.out _ (by simp only [set_sizeLe]; exact v0)
  · refine Below.alloc ?_ (by simp only [set_sizeLe]; omega) _
    repeat (first | (with_reducible exact hB) | (with_reducible refine bsetLe ?_ _ _ (by omega) _) | (with_reducible refine Below.drew ?_))
set_option maxRecDepth 100000 in
set_option maxHeartbeats 1000000 in
theorem New_big (m : Int) (hm : 16 < m) (w : World) :
    Calls Tryz.prog 58 #[.int .i64 m] w fun e w' => ∃ v, e = .returned (lv 0 0 0 v) ∧ OwnB w.heap.size w' v (lNew m).bal ∧ Below w.heap.size w w' := by
  have HN := hide (show (min (max m 0) 16).toNat = 16 by omega)
  have mk := run_zero 16 16 rfl (by omega)
  obtain ⟨w1, e1, hb1, hs1, X⟩ := lbox w 0 0 0 (.slice none 0 0) 61
  have HE1 := hide e1
  have hB := hb1
  have v0 : w1.heap.size = w.heap.size + 1 := hs1
  obtain ⟨P00, P01, P02, P03⟩ := ((X).below (balLe _ (zi 16))).all
  obtain ⟨Q00, Q01, Q02, Q03⟩ := ((X).below (balLe _ (zi 16))).free
  obtain ⟨P10, P11, P12, P13⟩ := ((X.put0 0).below (balLe _ (zi 16))).all
  obtain ⟨Q10, Q11, Q12, Q13⟩ := ((X.put0 0).below (balLe _ (zi 16))).free
  obtain ⟨P20, P21, P22, P23⟩ := (((X.put0 0).put1 0).below (balLe _ (zi 16))).all
  obtain ⟨Q20, Q21, Q22, Q23⟩ := (((X.put0 0).put1 0).below (balLe _ (zi 16))).free
  obtain ⟨P30, P31, P32, P33⟩ := ((((X.put0 0).put1 0).put2 0).below (balLe _ (zi 16))).all
  obtain ⟨Q30, Q31, Q32, Q33⟩ := ((((X.put0 0).put1 0).put2 0).below (balLe _ (zi 16))).free
  obtain ⟨P40, P41, P42, P43⟩ := (((((X.put0 0).put1 0).put2 0).put3 (.slice (some ⟨w.heap.size + 1, 0, none⟩) 16 16)).below (balLe _ (zi 16))).all
  obtain ⟨Q40, Q41, Q42, Q43⟩ := (((((X.put0 0).put1 0).put2 0).put3 (.slice (some ⟨w.heap.size + 1, 0, none⟩) 16 16)).below (balLe _ (zi 16))).free
  have HZ := hide (fun w2 => zi_at w2 16 (B := w.heap.size + 1) (by omega))
  clear e1 hb1 X
  go_enter Tryz.func58, Tryz.ntmps58
  go_upto_region 1 with (fail)
  rw [HE1.out]
  go_wp2
  refine bodyPost_ret (v := lv 0 0 0 (.slice (some ⟨w.heap.size + 1, 0, none⟩) 16 16)) (by simp [results, Tryz.results58, go_sem, P40, P41, P42, P43]) rfl ⟨_, rfl, ?_, ?_⟩
  · show OwnB _ _ _ (List.replicate _ 0)
    rw [HN.out]
    refine own_base (base := w.heap.size + 1) ?_ (by omega)
    exact HZ.out _ (by simp only [set_sizeLe]; exact v0)
  · refine Below.alloc ?_ (by simp only [set_sizeLe]; omega) _
    repeat (first | (with_reducible exact hB) | (with_reducible refine bsetLe ?_ _ _ (by omega) _) | (with_reducible refine Below.drew ?_))
theorem New_any (m : Int) (w : World) : Calls Tryz.prog 58 #[.int .i64 m] w fun e w' => ∃ v, e = .returned (lv 0 0 0 v) ∧ OwnB w.heap.size w' v (lNew m).bal ∧ Below w.heap.size w w' := by
  by_cases h : m < 0
  · exact New_neg m h w
  · by_cases k : 16 < m
    · exact New_big m k w
    · exact New_mid m ⟨by omega, by omega⟩ w
end Go.Proofs.YtdmbcjckgfjcaaaGreatDoor
