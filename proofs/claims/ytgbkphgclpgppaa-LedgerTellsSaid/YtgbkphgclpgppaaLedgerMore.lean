/- Layer ledger: Same, Right, New. -/
import Derived.Test.YtgbkphgclpgppaaLedgerScal
import Derived.Deep.Cut
namespace Go.Proofs.Ytgbkphgclpgppaa
open Go.RowKit

set_option maxRecDepth 100000 in
set_option maxHeartbeats 1000000 in
theorem Same_any (a b c : Int) (v : Value) (l : List Int) (a' b' c' : Int) (v' : Value) (l' : List Int) (w : World) (h1 : Ints w v l) (h2 : Ints w v' l') :
    Calls Try.prog 24 #[lv a b c v, lv a' b' c' v'] w fun e w' => e = .returned (.bool (lSame ⟨a, b, c, l⟩ ⟨a', b', c', l'⟩)) ∧ Below w.heap.size w w' := by
  by_cases h0 : a = a'
  · by_cases hh1 : b = b'
    · by_cases hh2 : c = c'
      · have EF := hide (show lSame ⟨a, b, c, l⟩ ⟨a', b', c', l'⟩ = decide (l = l') by unfold lSame; simp [h0, hh1, hh2])
        have e_0 : (a == a') = true := by simp [h0]
        have e_1 : (b == b') = true := by simp [hh1]
        have e_2 : (c == c') = true := by simp [hh2]
        have HI := hide h1
        have HJ := hide h2
        have hB : Below w.heap.size w w := Below.refl _ _
        obtain ⟨w1, e1, hb1, hs1, X, Y⟩ := lbox2 w a b c v 24 a' b' c' v' 24
        have HE1 := hide e1
        have HI := hide (HI.out.below hb1)
        have HJ := hide (HJ.out.below hb1)
        replace hB := bcall hB hb1
        obtain ⟨A, n, rfl, hn1, hn2, -⟩ := id h1
        obtain ⟨D, m, rfl, hm1, hm2, -⟩ := id h2
        unfold maxLen at hn2 hm2
        clear h1 h2 e1
        obtain ⟨X0, X1, X2, X3⟩ := X.all
        obtain ⟨Y0, Y1, Y2, Y3⟩ := Y.all
        clear X Y
        clear h0 hh1 hh2
        go_enter Try.func24, Try.ntmps24
        go_wp2_with fail
        rw [HE1.out]
        (with_reducible refine (Equal_any _ _ l l' _ HI.out HJ.out).mono ?_)
        rintro e w2 ⟨rfl, hb2⟩
        replace hB := bcall hB hb2
        go_wp2
        go_ret
        exact ⟨ret_bool EF.out.symm, hB⟩
      · have EF := hide (show lSame ⟨a, b, c, l⟩ ⟨a', b', c', l'⟩ = false by unfold lSame; simp [h0, hh1, hh2])
        have e_0 : (a == a') = true := by simp [h0]
        have e_1 : (b == b') = true := by simp [hh1]
        have e_2 : (c == c') = false := by simp [hh2]
        have HI := hide h1
        have HJ := hide h2
        have hB : Below w.heap.size w w := Below.refl _ _
        obtain ⟨w1, e1, hb1, hs1, X, Y⟩ := lbox2 w a b c v 24 a' b' c' v' 24
        have HE1 := hide e1
        have HI := hide (HI.out.below hb1)
        have HJ := hide (HJ.out.below hb1)
        replace hB := bcall hB hb1
        obtain ⟨A, n, rfl, hn1, hn2, -⟩ := id h1
        obtain ⟨D, m, rfl, hm1, hm2, -⟩ := id h2
        unfold maxLen at hn2 hm2
        clear h1 h2 e1
        obtain ⟨X0, X1, X2, X3⟩ := X.all
        obtain ⟨Y0, Y1, Y2, Y3⟩ := Y.all
        clear X Y
        clear h0 hh1 hh2
        go_enter Try.func24, Try.ntmps24
        go_wp2
        (try rw [HE1.out])
        go_ret
        exact ⟨ret_bool EF.out.symm, hB⟩
    · have EF := hide (show lSame ⟨a, b, c, l⟩ ⟨a', b', c', l'⟩ = false by unfold lSame; simp [h0, hh1])
      have e_0 : (a == a') = true := by simp [h0]
      have e_1 : (b == b') = false := by simp [hh1]
      have HI := hide h1
      have HJ := hide h2
      have hB : Below w.heap.size w w := Below.refl _ _
      obtain ⟨w1, e1, hb1, hs1, X, Y⟩ := lbox2 w a b c v 24 a' b' c' v' 24
      have HE1 := hide e1
      have HI := hide (HI.out.below hb1)
      have HJ := hide (HJ.out.below hb1)
      replace hB := bcall hB hb1
      obtain ⟨A, n, rfl, hn1, hn2, -⟩ := id h1
      obtain ⟨D, m, rfl, hm1, hm2, -⟩ := id h2
      unfold maxLen at hn2 hm2
      clear h1 h2 e1
      obtain ⟨X0, X1, X2, X3⟩ := X.all
      obtain ⟨Y0, Y1, Y2, Y3⟩ := Y.all
      clear X Y
      clear h0 hh1
      go_enter Try.func24, Try.ntmps24
      go_wp2
      (try rw [HE1.out])
      go_ret
      exact ⟨ret_bool EF.out.symm, hB⟩
  · have EF := hide (show lSame ⟨a, b, c, l⟩ ⟨a', b', c', l'⟩ = false by unfold lSame; simp [h0])
    have e_0 : (a == a') = false := by simp [h0]
    have HI := hide h1
    have HJ := hide h2
    have hB : Below w.heap.size w w := Below.refl _ _
    obtain ⟨w1, e1, hb1, hs1, X, Y⟩ := lbox2 w a b c v 24 a' b' c' v' 24
    have HE1 := hide e1
    have HI := hide (HI.out.below hb1)
    have HJ := hide (HJ.out.below hb1)
    replace hB := bcall hB hb1
    obtain ⟨A, n, rfl, hn1, hn2, -⟩ := id h1
    obtain ⟨D, m, rfl, hm1, hm2, -⟩ := id h2
    unfold maxLen at hn2 hm2
    clear h1 h2 e1
    obtain ⟨X0, X1, X2, X3⟩ := X.all
    obtain ⟨Y0, Y1, Y2, Y3⟩ := Y.all
    clear X Y
    clear h0
    go_enter Try.func24, Try.ntmps24
    go_wp2
    (try rw [HE1.out])
    go_ret
    exact ⟨ret_bool EF.out.symm, hB⟩
theorem ic_map' (l : List Int) : l.flatMap ic = l.map (Value.int .i64) := (ic_map l).symm
theorem madeI (N : Nat) : (madeCells #[Value.int .i64 0] N).toList = (List.replicate N (0 : Int)).flatMap ic := by
  rw [ic_map', List.map_replicate, toList_madeCells_one]
/-- balances that were made -/
def zi (n : Nat) : Obj := .cells (madeCells #[Value.int .i64 0] n) 2
theorem run_zero (n : Nat) (z : Int) (hz : (n : Int) = z) (hn : n ≤ 1000) (w : World) : (Instr.makeSlice 22 (.int .i64 z) (.int .i64 z)).run Try.prog w = .ok (.slice (some ⟨w.heap.size, 0, none⟩) n n) (w.alloc (zi n)) := by
  subst hz
  obtain ⟨i0, hi, hz0, hz1, hz2⟩ := info_parts infoI
  have h := run_makeSlice (P := Try.prog) (w := w) 22 2 i0 (.int .i64 0) Try.underlying22 hi hz0 .i64 .i64 (n : Int) (n : Int) (by omega) (Int.le_refl _) (by rw [hz1]; simp; omega) (by rw [hz2]; omega) (by omega)
  rw [hz1] at h
  have e : (Value.int .i64 0).cells = #[Value.int .i64 0] := rfl
  rw [e] at h
  simpa [zi] using h
theorem zi_own (w : World) (n : Nat) (hn : n ≤ 1000) : OwnB w.heap.size (w.alloc (zi n)) (.slice (some ⟨w.heap.size, 0, none⟩) n n) (List.replicate n 0) := by
  have h := World.ownsRow_lit w (madeCells #[Value.int .i64 0] n) n (base := w.heap.size) (e := 2) (size := 1) (Nat.le_refl _) (by unfold maxLen; omega) (by rw [size_madeCells, Nat.mul_one])
  rw [madeI] at h
  show World.ownsRow _ _ _ _ _ _ _
  rw [List.length_replicate]; exact h
theorem zi_at (w : World) (n : Nat) {B : Nat} (hn : n ≤ 1000) (h : w.heap.size = B) : OwnB B (w.alloc (zi n)) (.slice (some ⟨B, 0, none⟩) n n) (List.replicate n 0) := by subst h; exact zi_own w n hn
set_option maxRecDepth 100000 in
set_option maxHeartbeats 1000000 in
theorem New_neg (m : Int) (hm : m < 0) (w : World) :
    Calls Try.prog 25 #[.int .i64 m] w fun e w' => ∃ v, e = .returned (lv 0 0 0 v) ∧ OwnB w.heap.size w' v (lNew m).bal ∧ Below w.heap.size w w' := by
  have HN := hide (show (min (max m 0) 16).toNat = 0 by omega)
  have mk := run_zero 0 0 rfl (by omega)
  obtain ⟨w1, e1, hb1, hs1, X⟩ := lbox w 0 0 0 (.slice none 0 0) 24
  have HE1 := hide e1
  have hB := hb1
  have v0 : w1.heap.size = w.heap.size + 1 := hs1
  obtain ⟨P00, P01, P02, P03⟩ := ((X).below (bal _ (zi 0))).all
  obtain ⟨Q00, Q01, Q02, Q03⟩ := ((X).below (bal _ (zi 0))).free
  obtain ⟨P10, P11, P12, P13⟩ := ((X.put0 0).below (bal _ (zi 0))).all
  obtain ⟨Q10, Q11, Q12, Q13⟩ := ((X.put0 0).below (bal _ (zi 0))).free
  obtain ⟨P20, P21, P22, P23⟩ := (((X.put0 0).put1 0).below (bal _ (zi 0))).all
  obtain ⟨Q20, Q21, Q22, Q23⟩ := (((X.put0 0).put1 0).below (bal _ (zi 0))).free
  obtain ⟨P30, P31, P32, P33⟩ := ((((X.put0 0).put1 0).put2 0).below (bal _ (zi 0))).all
  obtain ⟨Q30, Q31, Q32, Q33⟩ := ((((X.put0 0).put1 0).put2 0).below (bal _ (zi 0))).free
  obtain ⟨P40, P41, P42, P43⟩ := (((((X.put0 0).put1 0).put2 0).put3 (.slice (some ⟨w.heap.size + 1, 0, none⟩) 0 0)).below (bal _ (zi 0))).all
  obtain ⟨Q40, Q41, Q42, Q43⟩ := (((((X.put0 0).put1 0).put2 0).put3 (.slice (some ⟨w.heap.size + 1, 0, none⟩) 0 0)).below (bal _ (zi 0))).free
  have HZ := hide (fun w2 => zi_at w2 0 (B := w.heap.size + 1) (by omega))
  clear e1 hb1 X
  go_enter Try.func25, Try.ntmps25
  go_upto_region 1 with (fail)
  rw [HE1.out]
  go_wp2
  refine bodyPost_ret (v := lv 0 0 0 (.slice (some ⟨w.heap.size + 1, 0, none⟩) 0 0)) (by simp [results, Try.results25, go_sem, P40, P41, P42, P43]) rfl ⟨_, rfl, ?_, ?_⟩
  · show OwnB _ _ _ (List.replicate _ 0)
    rw [HN.out]
    refine own_base (base := w.heap.size + 1) ?_ (by omega)
    exact HZ.out _ (by simp only [set_size]; exact v0)
  · refine Below.alloc ?_ (by simp only [set_size]; omega) _
    repeat (first | (with_reducible exact hB) | (with_reducible refine bset ?_ _ _ (by omega) _) | (with_reducible refine Below.drew ?_))
set_option maxRecDepth 100000 in
set_option maxHeartbeats 1000000 in
theorem New_mid (m : Int) (hm : 0 ≤ m ∧ m ≤ 16) (w : World) :
    Calls Try.prog 25 #[.int .i64 m] w fun e w' => ∃ v, e = .returned (lv 0 0 0 v) ∧ OwnB w.heap.size w' v (lNew m).bal ∧ Below w.heap.size w w' := by
  obtain ⟨n, rfl⟩ : ∃ n : Nat, m = n := ⟨m.toNat, by omega⟩
  have hn : n ≤ 16 := by omega
  have HN := hide (show (min (max (n : Int) 0) 16).toNat = n by omega)
  have mk := run_zero n n rfl (by omega)
  obtain ⟨w1, e1, hb1, hs1, X⟩ := lbox w 0 0 0 (.slice none 0 0) 24
  have HE1 := hide e1
  have hB := hb1
  have v0 : w1.heap.size = w.heap.size + 1 := hs1
  obtain ⟨P00, P01, P02, P03⟩ := ((X).below (bal _ (zi n))).all
  obtain ⟨Q00, Q01, Q02, Q03⟩ := ((X).below (bal _ (zi n))).free
  obtain ⟨P10, P11, P12, P13⟩ := ((X.put0 0).below (bal _ (zi n))).all
  obtain ⟨Q10, Q11, Q12, Q13⟩ := ((X.put0 0).below (bal _ (zi n))).free
  obtain ⟨P20, P21, P22, P23⟩ := (((X.put0 0).put1 0).below (bal _ (zi n))).all
  obtain ⟨Q20, Q21, Q22, Q23⟩ := (((X.put0 0).put1 0).below (bal _ (zi n))).free
  obtain ⟨P30, P31, P32, P33⟩ := ((((X.put0 0).put1 0).put2 0).below (bal _ (zi n))).all
  obtain ⟨Q30, Q31, Q32, Q33⟩ := ((((X.put0 0).put1 0).put2 0).below (bal _ (zi n))).free
  obtain ⟨P40, P41, P42, P43⟩ := (((((X.put0 0).put1 0).put2 0).put3 (.slice (some ⟨w.heap.size + 1, 0, none⟩) n n)).below (bal _ (zi n))).all
  obtain ⟨Q40, Q41, Q42, Q43⟩ := (((((X.put0 0).put1 0).put2 0).put3 (.slice (some ⟨w.heap.size + 1, 0, none⟩) n n)).below (bal _ (zi n))).free
  have HZ := hide (fun w2 => zi_at w2 n (B := w.heap.size + 1) (by omega))
  clear e1 hb1 X
  go_enter Try.func25, Try.ntmps25
  go_upto_region 1 with (fail)
  rw [HE1.out]
  go_wp2
  refine bodyPost_ret (v := lv 0 0 0 (.slice (some ⟨w.heap.size + 1, 0, none⟩) n n)) (by simp [results, Try.results25, go_sem, P40, P41, P42, P43]) rfl ⟨_, rfl, ?_, ?_⟩
  · show OwnB _ _ _ (List.replicate _ 0)
    rw [HN.out]
    refine own_base (base := w.heap.size + 1) ?_ (by omega)
    exact HZ.out _ (by simp only [set_size]; exact v0)
  · refine Below.alloc ?_ (by simp only [set_size]; omega) _
    repeat (first | (with_reducible exact hB) | (with_reducible refine bset ?_ _ _ (by omega) _) | (with_reducible refine Below.drew ?_))
set_option maxRecDepth 100000 in
set_option maxHeartbeats 1000000 in
theorem New_big (m : Int) (hm : 16 < m) (w : World) :
    Calls Try.prog 25 #[.int .i64 m] w fun e w' => ∃ v, e = .returned (lv 0 0 0 v) ∧ OwnB w.heap.size w' v (lNew m).bal ∧ Below w.heap.size w w' := by
  have HN := hide (show (min (max m 0) 16).toNat = 16 by omega)
  have mk := run_zero 16 16 rfl (by omega)
  obtain ⟨w1, e1, hb1, hs1, X⟩ := lbox w 0 0 0 (.slice none 0 0) 24
  have HE1 := hide e1
  have hB := hb1
  have v0 : w1.heap.size = w.heap.size + 1 := hs1
  obtain ⟨P00, P01, P02, P03⟩ := ((X).below (bal _ (zi 16))).all
  obtain ⟨Q00, Q01, Q02, Q03⟩ := ((X).below (bal _ (zi 16))).free
  obtain ⟨P10, P11, P12, P13⟩ := ((X.put0 0).below (bal _ (zi 16))).all
  obtain ⟨Q10, Q11, Q12, Q13⟩ := ((X.put0 0).below (bal _ (zi 16))).free
  obtain ⟨P20, P21, P22, P23⟩ := (((X.put0 0).put1 0).below (bal _ (zi 16))).all
  obtain ⟨Q20, Q21, Q22, Q23⟩ := (((X.put0 0).put1 0).below (bal _ (zi 16))).free
  obtain ⟨P30, P31, P32, P33⟩ := ((((X.put0 0).put1 0).put2 0).below (bal _ (zi 16))).all
  obtain ⟨Q30, Q31, Q32, Q33⟩ := ((((X.put0 0).put1 0).put2 0).below (bal _ (zi 16))).free
  obtain ⟨P40, P41, P42, P43⟩ := (((((X.put0 0).put1 0).put2 0).put3 (.slice (some ⟨w.heap.size + 1, 0, none⟩) 16 16)).below (bal _ (zi 16))).all
  obtain ⟨Q40, Q41, Q42, Q43⟩ := (((((X.put0 0).put1 0).put2 0).put3 (.slice (some ⟨w.heap.size + 1, 0, none⟩) 16 16)).below (bal _ (zi 16))).free
  have HZ := hide (fun w2 => zi_at w2 16 (B := w.heap.size + 1) (by omega))
  clear e1 hb1 X
  go_enter Try.func25, Try.ntmps25
  go_upto_region 1 with (fail)
  rw [HE1.out]
  go_wp2
  refine bodyPost_ret (v := lv 0 0 0 (.slice (some ⟨w.heap.size + 1, 0, none⟩) 16 16)) (by simp [results, Try.results25, go_sem, P40, P41, P42, P43]) rfl ⟨_, rfl, ?_, ?_⟩
  · show OwnB _ _ _ (List.replicate _ 0)
    rw [HN.out]
    refine own_base (base := w.heap.size + 1) ?_ (by omega)
    exact HZ.out _ (by simp only [set_size]; exact v0)
  · refine Below.alloc ?_ (by simp only [set_size]; omega) _
    repeat (first | (with_reducible exact hB) | (with_reducible refine bset ?_ _ _ (by omega) _) | (with_reducible refine Below.drew ?_))
theorem New_any (m : Int) (w : World) : Calls Try.prog 25 #[.int .i64 m] w fun e w' => ∃ v, e = .returned (lv 0 0 0 v) ∧ OwnB w.heap.size w' v (lNew m).bal ∧ Below w.heap.size w w' := by
  by_cases h : m < 0
  · exact New_neg m h w
  · by_cases k : 16 < m
    · exact New_big m k w
    · exact New_mid m ⟨by omega, by omega⟩ w
/-- balances that are such as there may be -/
def okB (l : List Int) : Bool := l.all fun x => inL x (-1099511627776) 1099511627776
theorem right_is (a b c : Int) (l : List Int) : lRight ⟨a, b, c, l⟩ = (inL a 0 1099511627776 && (inL b 0 1099511627776 && (inL c 0 1099511627776 && (decide (l.length ≤ 16) && (okB l && decide (lSumF (s64 (b + c)) l = a)))))) := by
  have e : okB l = l.all (fun x => decide (-lMost ≤ x ∧ x ≤ lMost)) := rfl
  unfold lRight inL
  rw [e]
  simp only [lMost]
  generalize (l.all fun x => decide (-1099511627776 ≤ x ∧ x ≤ 1099511627776)) = z
  rw [Bool.eq_iff_iff]
  simp only [Bool.and_eq_true, decide_eq_true_eq]
  constructor
  · intro h; have g := of_decide_eq_true h.1; exact ⟨⟨g.1, g.2.1⟩, ⟨g.2.2.1, g.2.2.2.1⟩, ⟨g.2.2.2.2.1, g.2.2.2.2.2.1⟩, g.2.2.2.2.2.2, h.2.1, h.2.2⟩
  · intro h; exact ⟨decide_eq_true ⟨h.1.1, h.1.2, h.2.1.1, h.2.1.2, h.2.2.1.1, h.2.2.1.2, h.2.2.2.1⟩, h.2.2.2.2.1, h.2.2.2.2.2⟩
theorem ok_not {l : List Int} {k : Nat} (h : k < l.length) (hx : inL l[k] (-1099511627776) 1099511627776 = false) : okB l = false := by
  unfold okB
  rw [Bool.eq_false_iff]
  intro h2
  rw [List.all_eq_true] at h2
  have h3 : inL l[k] (-1099511627776) 1099511627776 = true := h2 l[k] (List.getElem_mem h)
  rw [hx] at h3; exact absurd h3 (by decide)
theorem ok_snoc {l : List Int} {k : Nat} (h : k < l.length) (hk : okB (l.take k) = true) (hx : inL l[k] (-1099511627776) 1099511627776 = true) : okB (l.take (k + 1)) = true := by
  unfold okB at *
  rw [List.take_succ_eq_append_getElem h, List.all_append, hk]
  simp [hx]
theorem sumF_snoc (l : List Int) (s x : Int) : lSumF s (l ++ [x]) = s64 (lSumF s l + x) := by
  induction l generalizing s with
  | nil => rfl
  | cons y l ih => simp only [List.cons_append, lSumF]; exact ih _
theorem sum_take {l : List Int} {k : Nat} (h : k < l.length) (s : Int) : lSumF s (l.take (k + 1)) = s64 (lSumF s (l.take k) + l[k]) := by
  rw [List.take_succ_eq_append_getElem h, sumF_snoc]
set_option maxRecDepth 100000 in
set_option maxHeartbeats 2000000 in
theorem Right_any (a b c : Int) (v : Value) (l : List Int) (w : World) (h : Ints w v l) :
    Calls Try.prog 18 #[lv a b c v] w fun e w' => e = .returned (.bool (lRight ⟨a, b, c, l⟩)) ∧ Below w.heap.size w w' := by
  cases h0 : inL a 0 1099511627776
  · have EF := hide (show lRight ⟨a, b, c, l⟩ = false by rw [right_is, h0]; rfl)
    have H0 := hide h0
    have hB : Below w.heap.size w w := Below.refl _ _
    have HI := hide h
    obtain ⟨A, m, rfl, hn1, hn2, -⟩ := id h
    unfold maxLen at hn2
    clear h h0
    obtain ⟨w1, e1, hb1, hs1, X⟩ := lbox w (a) (b) (c) (.slice A l.length m) 24
    have HE1 := hide e1
    have X := hide X
    clear e1
    replace HI := hide (HI.out.below hb1)
    replace hB := bcall hB hb1
    clear hb1
    go_enter Try.func18, Try.ntmps18
    obtain ⟨X0, X1, X2, X3⟩ := X.out.all
    go_wp2_with fail
    rw [HE1.out]
    (with_reducible refine (within_any a 0 1099511627776 _).mono ?_)
    rintro e w1 ⟨rfl, rfl⟩
    rw [H0.out]
    go_wp2
    go_ret
    exact ⟨ret_bool EF.out.symm, hB⟩
  · cases h1 : inL b 0 1099511627776
    · have EF := hide (show lRight ⟨a, b, c, l⟩ = false by rw [right_is, h0, h1]; rfl)
      have H0 := hide h0
      have H1 := hide h1
      have hB : Below w.heap.size w w := Below.refl _ _
      have HI := hide h
      obtain ⟨A, m, rfl, hn1, hn2, -⟩ := id h
      unfold maxLen at hn2
      clear h h0 h1
      obtain ⟨w1, e1, hb1, hs1, X⟩ := lbox w (a) (b) (c) (.slice A l.length m) 24
      have HE1 := hide e1
      have X := hide X
      clear e1
      replace HI := hide (HI.out.below hb1)
      replace hB := bcall hB hb1
      clear hb1
      go_enter Try.func18, Try.ntmps18
      obtain ⟨X0, X1, X2, X3⟩ := X.out.all
      go_wp2_with fail
      rw [HE1.out]
      (with_reducible refine (within_any a 0 1099511627776 _).mono ?_)
      rintro e w1 ⟨rfl, rfl⟩
      rw [H0.out]
      go_wp2_with fail
      (with_reducible refine (within_any b 0 1099511627776 _).mono ?_)
      rintro e w1 ⟨rfl, rfl⟩
      rw [H1.out]
      go_wp2
      go_ret
      exact ⟨ret_bool EF.out.symm, hB⟩
    · cases h2 : inL c 0 1099511627776
      · have EF := hide (show lRight ⟨a, b, c, l⟩ = false by rw [right_is, h0, h1, h2]; rfl)
        have H0 := hide h0
        have H1 := hide h1
        have H2 := hide h2
        have hB : Below w.heap.size w w := Below.refl _ _
        have HI := hide h
        obtain ⟨A, m, rfl, hn1, hn2, -⟩ := id h
        unfold maxLen at hn2
        clear h h0 h1 h2
        obtain ⟨w1, e1, hb1, hs1, X⟩ := lbox w (a) (b) (c) (.slice A l.length m) 24
        have HE1 := hide e1
        have X := hide X
        clear e1
        replace HI := hide (HI.out.below hb1)
        replace hB := bcall hB hb1
        clear hb1
        go_enter Try.func18, Try.ntmps18
        obtain ⟨X0, X1, X2, X3⟩ := X.out.all
        go_wp2_with fail
        rw [HE1.out]
        (with_reducible refine (within_any a 0 1099511627776 _).mono ?_)
        rintro e w1 ⟨rfl, rfl⟩
        rw [H0.out]
        go_wp2_with fail
        (with_reducible refine (within_any b 0 1099511627776 _).mono ?_)
        rintro e w1 ⟨rfl, rfl⟩
        rw [H1.out]
        go_wp2_with fail
        (with_reducible refine (within_any c 0 1099511627776 _).mono ?_)
        rintro e w1 ⟨rfl, rfl⟩
        rw [H2.out]
        go_wp2
        go_ret
        exact ⟨ret_bool EF.out.symm, hB⟩
      · by_cases hl : l.length ≤ 16
        · have EF := hide (show lRight ⟨a, b, c, l⟩ = (okB l && decide (lSumF (s64 (b + c)) l = a)) by rw [right_is, h0, h1, h2]; simp [hl])
          have H0 := hide h0
          have H1 := hide h1
          have H2 := hide h2
          have hB : Below w.heap.size w w := Below.refl _ _
          have HI := hide h
          obtain ⟨A, m, rfl, hn1, hn2, -⟩ := id h
          unfold maxLen at hn2
          clear h h0 h1 h2
          obtain ⟨w1, e1, hb1, hs1, X⟩ := lbox w (a) (b) (c) (.slice A l.length m) 24
          have HE1 := hide e1
          have X := hide X
          clear e1
          replace HI := hide (HI.out.below hb1)
          replace hB := bcall hB hb1
          clear hb1
          go_enter Try.func18, Try.ntmps18
          obtain ⟨X0, X1, X2, X3⟩ := X.out.all
          go_wp2_with fail
          rw [HE1.out]
          (with_reducible refine (within_any a 0 1099511627776 _).mono ?_)
          rintro e w1 ⟨rfl, rfl⟩
          rw [H0.out]
          go_wp2_with fail
          (with_reducible refine (within_any b 0 1099511627776 _).mono ?_)
          rintro e w1 ⟨rfl, rfl⟩
          rw [H1.out]
          go_wp2_with fail
          (with_reducible refine (within_any c 0 1099511627776 _).mono ?_)
          rintro e w1 ⟨rfl, rfl⟩
          rw [H2.out]
          have e1 := wrap_s (b + c)
          obtain ⟨s, hs⟩ : ∃ s, s64 (b + c) = s := ⟨_, rfl⟩
          rw [hs] at e1 EF
          clear hs
          go_wp2
          go_loopw [3, 34] (fun t i wr => ∃ k : Nat, k ≤ l.length ∧ i = .int .i64 k ∧ t = .int .i64 (lSumF s (l.take k)) ∧ wr = w1 ∧ Hid (okB (l.take k) = true)) (fun _ i _ => l.length - (Go.RowKit.intOf i).toNat)
          case atStart => exact ⟨0, Nat.zero_le _, rfl, rfl, rfl, hide rfl⟩
          case round =>
            obtain ⟨k, hk, rfl, rfl, rfl, HK⟩ := hrel
            by_cases hlt : k < l.length
            · obtain ⟨g, off, rfl, -, d0⟩ := ints_at HI.out hlt
              have HS := hide (sum_take hlt s)
              have e2 := wrap_s (lSumF s (l.take k) + l[k])
              rw [← HS.out] at e2
              obtain ⟨t, ht⟩ : ∃ t, lSumF s (l.take k) = t := ⟨_, rfl⟩
              rw [ht] at e2 ⊢
              clear HS
              cases hx : inL l[k] (-1099511627776) 1099511627776
              · have HX := hide hx
                have HO := hide (ok_not hlt hx)
                clear hx
                generalize l[k] = x at *
                go_wp2_with fail
                (with_reducible refine (within_any x (-1099511627776) 1099511627776 _).mono ?_)
                rintro e _ ⟨rfl, rfl⟩
                rw [HX.out]
                go_wp2
                go_ret
                exact ⟨ret_bool (by rw [EF.out, HO.out]; rfl), hB⟩
              · have HX := hide hx
                have HO := hide (ok_snoc hlt HK.out hx)
                clear hx
                generalize l[k] = x at *
                go_wp2_with fail
                (with_reducible refine (within_any x (-1099511627776) 1099511627776 _).mono ?_)
                rintro e _ ⟨rfl, rfl⟩
                rw [HX.out]
                go_wp2
                go_roundw
                case rel => exact ⟨k + 1, by omega, by go_num, rfl, trivial, HO⟩
                case measure => simp [Go.RowKit.intOf]; omega
            · have hkk : k = l.length := by omega
              subst hkk
              rw [List.take_length] at *
              have HF := hide (show lRight ⟨a, b, c, l⟩ = decide (lSumF s l = a) by rw [EF.out, HK.out]; rfl)
              obtain ⟨t, ht⟩ : ∃ t, lSumF s l = t := ⟨_, rfl⟩
              rw [ht] at HF ⊢
              clear ht
              go_wp2
              go_ret
              exact ⟨ret_bool (by rw [HF.out, Bool.eq_iff_iff, beq_iff_eq, decide_eq_true_eq, eq_comm]), hB⟩
        · have EF := hide (show lRight ⟨a, b, c, l⟩ = false by rw [right_is, h0, h1, h2]; simp [hl])
          have H0 := hide h0
          have H1 := hide h1
          have H2 := hide h2
          have hB : Below w.heap.size w w := Below.refl _ _
          have HI := hide h
          obtain ⟨A, m, rfl, hn1, hn2, -⟩ := id h
          unfold maxLen at hn2
          clear h h0 h1 h2
          obtain ⟨w1, e1, hb1, hs1, X⟩ := lbox w (a) (b) (c) (.slice A l.length m) 24
          have HE1 := hide e1
          have X := hide X
          clear e1
          replace HI := hide (HI.out.below hb1)
          replace hB := bcall hB hb1
          clear hb1
          go_enter Try.func18, Try.ntmps18
          obtain ⟨X0, X1, X2, X3⟩ := X.out.all
          go_wp2_with fail
          rw [HE1.out]
          (with_reducible refine (within_any a 0 1099511627776 _).mono ?_)
          rintro e w1 ⟨rfl, rfl⟩
          rw [H0.out]
          go_wp2_with fail
          (with_reducible refine (within_any b 0 1099511627776 _).mono ?_)
          rintro e w1 ⟨rfl, rfl⟩
          rw [H1.out]
          go_wp2_with fail
          (with_reducible refine (within_any c 0 1099511627776 _).mono ?_)
          rintro e w1 ⟨rfl, rfl⟩
          rw [H2.out]
          go_wp2
          go_ret
          exact ⟨ret_bool EF.out.symm, hB⟩
end Go.Proofs.Ytgbkphgclpgppaa
