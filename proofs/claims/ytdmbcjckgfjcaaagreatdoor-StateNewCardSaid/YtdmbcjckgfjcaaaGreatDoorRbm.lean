/- Layer plan: slices of ops, of picks and of rows of ops compared; the numbers of a plan as an array. Written by tools/genplanr6.py. -/
import Derived.Test.YtdmbcjckgfjcaaaGreatDoorRaw
import Derived.Test.YtdmbcjckgfjcaaaGreatDoorRbj
import Derived.Test.YtdmbcjckgfjcaaaGreatDoorRbl
namespace Go.Proofs.YtdmbcjckgfjcaaaGreatDoor
open Go.RowKit Go.Joins
set_option maxRecDepth 100000 in
set_option maxHeartbeats 2000000 in
theorem Equal_picks (va vb : Value) (a b : List PP) (w : World) (ha : Picks w va a) (hb : Picks w vb b) :
    Calls Tryz.prog 135 #[va, vb] w fun e w' => e = .returned (.bool (decide (a = b))) ∧ Below w.heap.size w w' := by
  have ha' := ha
  have hb' := hb
  obtain ⟨A, c, rfl, h1, h2, -⟩ := ha'
  obtain ⟨B, d, rfl, h3, h4, -⟩ := hb'
  unfold maxLen at h2 h4
  have HA := hide ha
  have HB := hide hb
  clear ha hb
  by_cases hn : a.length = b.length
  · have q : (((a.length : Int)) != ((b.length : Int))) = false := by rw [bne_eq_false_iff_eq]; omega
    have HN := hide hn
    clear hn
    go_enter Tryz.func135, Tryz.ntmps135
    go_wp2
    go_loopw [13] (fun i wr => ∃ k : Nat, k ≤ a.length ∧ i = .int .i64 k ∧ Below w.heap.size w wr ∧ Hid (a.take k = b.take k)) (fun i _ => a.length - (Go.RowKit.intOf i).toNat)
    case atStart => exact ⟨0, Nat.zero_le _, rfl, Below.refl _ _, hide (by simp)⟩
    case round =>
      obtain ⟨k, hk, rfl, hbw, HE⟩ := hrel
      by_cases hlt : k < a.length
      · have hlb : k < b.length := by have := HN.out; omega
        obtain ⟨b1, o1, rfl, _, c0, c1⟩ := picks_at (HA.out.below hbw) hlt
        obtain ⟨b2, o2, rfl, _, c2, c3⟩ := picks_at (HB.out.below hbw) hlb
        obtain ⟨D, hD, hnp⟩ : ∃ D, D = decide (a[k] = b[k]) ∧ ∀ w, (binOp .neq 179 (.agg #[.int .i64 (a[k]).1, .int .i64 (a[k]).2]) (.agg #[.int .i64 (b[k]).1, .int .i64 (b[k]).2])).run Tryz.prog w = .ok (.bool (!D)) w :=
          ⟨_, rfl, fun w => by
            rw [neq_pick]
            have : ((a[k]).1 == (b[k]).1 && (a[k]).2 == (b[k]).2) = decide (a[k] = b[k]) := by
              rw [Bool.eq_iff_iff, Bool.and_eq_true, beq_iff_eq, beq_iff_eq, decide_eq_true_eq, Prod.ext_iff]
            rw [this]⟩
        by_cases he : a[k] = b[k]
        · have e1 : D = true := hD.trans (decide_eq_true he)
          rw [e1] at hnp
          have HE' := hide (show a.take (k + 1) = b.take (k + 1) by rw [List.take_succ_eq_append_getElem hlt, List.take_succ_eq_append_getElem hlb, HE.out, he])
          clear e1 he hD
          go_wp2
          go_quiet (fail)
          go_wp2
          go_roundw
          case rel => exact ⟨k + 1, by omega, by go_num, bdrewN hbw _, HE'⟩
          case measure => simp [Go.RowKit.intOf]; omega
        · have e1 : D = false := hD.trans (decide_eq_false he)
          rw [e1] at hnp
          have HF := hide (show decide (a = b) = false by
            simp only [decide_eq_false_iff_not]
            intro h
            apply he
            simp [h])
          clear e1 he hD
          go_wp2
          go_quiet (fail)
          go_wp2
          go_ret
          exact ⟨ret_bool HF.out.symm, bdrewN hbw _⟩
      · have HF := hide (show a = b by
          have h := HE.out
          have := HN.out
          rwa [List.take_of_length_le (by omega), List.take_of_length_le (by omega)] at h)
        go_wp2
        go_ret
        exact ⟨ret_bool (by rw [HF.out]; simp), hbw⟩
  · have q : (((a.length : Int)) != ((b.length : Int))) = true := by rw [bne_iff_ne]; omega
    have HN := hide (show decide (a = b) = false by simp; intro e; exact hn (by rw [e]))
    clear hn
    go_enter Tryz.func135, Tryz.ntmps135
    go_wp2
    go_ret
    exact ⟨ret_bool HN.out.symm, Below.refl _ _⟩
set_option maxRecDepth 100000 in
set_option maxHeartbeats 2000000 in
theorem Equal_ops (va vb : Value) (a b : List Oq) (w : World) (ha : Oqs w va a) (hb : Oqs w vb b) :
    Calls Tryz.prog 134 #[va, vb] w fun e w' => e = .returned (.bool (decide (a = b))) ∧ Below w.heap.size w w' := by
  have ha' := ha
  have hb' := hb
  obtain ⟨A, c, rfl, h1, h2, -⟩ := ha'
  obtain ⟨B, d, rfl, h3, h4, -⟩ := hb'
  unfold maxLen at h2 h4
  have HA := hide ha
  have HB := hide hb
  clear ha hb
  by_cases hn : a.length = b.length
  · have q : (((a.length : Int)) != ((b.length : Int))) = false := by rw [bne_eq_false_iff_eq]; omega
    have HN := hide hn
    clear hn
    go_enter Tryz.func134, Tryz.ntmps134
    go_wp2
    go_loopw [13] (fun i wr => ∃ k : Nat, k ≤ a.length ∧ i = .int .i64 k ∧ Below w.heap.size w wr ∧ Hid (a.take k = b.take k)) (fun i _ => a.length - (Go.RowKit.intOf i).toNat)
    case atStart => exact ⟨0, Nat.zero_le _, rfl, Below.refl _ _, hide (by simp)⟩
    case round =>
      obtain ⟨k, hk, rfl, hbw, HE⟩ := hrel
      by_cases hlt : k < a.length
      · have hlb : k < b.length := by have := HN.out; omega
        obtain ⟨k1, r1, x1, z1, q1⟩ : ∃ k' r x z, a[k] = (⟨k', r, x, z⟩ : Oq) := ⟨_, _, _, _, rfl⟩
        obtain ⟨k2, r2, x2, z2, q2⟩ : ∃ k' r x z, b[k] = (⟨k', r, x, z⟩ : Oq) := ⟨_, _, _, _, rfl⟩
        obtain ⟨b1, o1, rfl, -, c0, c1, c2, c3⟩ := oq_at (HA.out.below hbw) hlt q1
        obtain ⟨b2, o2, rfl, -, d0, d1, d2, d3⟩ := oq_at (HB.out.below hbw) hlb q2
        obtain ⟨D, hD, hnp⟩ : ∃ D, D = decide (a[k] = b[k]) ∧ ∀ w, (binOp .neq 99 (qv k1 r1 x1 z1) (qv k2 r2 x2 z2)).run Tryz.prog w = .ok (.bool (!D)) w :=
          ⟨_, rfl, fun w => by rw [neq_cop, q1, q2]⟩
        clear q1 q2
        by_cases he : a[k] = b[k]
        · have e1 : D = true := hD.trans (decide_eq_true he)
          rw [e1] at hnp
          have HE' := hide (show a.take (k + 1) = b.take (k + 1) by rw [List.take_succ_eq_append_getElem hlt, List.take_succ_eq_append_getElem hlb, HE.out, he])
          clear e1 he hD
          go_wp2
          go_quiet (fail)
          go_wp2
          go_roundw
          case rel => exact ⟨k + 1, by omega, by go_num, bdrewN hbw _, HE'⟩
          case measure => simp [Go.RowKit.intOf]; omega
        · have e1 : D = false := hD.trans (decide_eq_false he)
          rw [e1] at hnp
          have HF := hide (show decide (a = b) = false by
            simp only [decide_eq_false_iff_not]
            intro h
            apply he
            simp [h])
          clear e1 he hD
          go_wp2
          go_quiet (fail)
          go_wp2
          go_ret
          exact ⟨ret_bool HF.out.symm, bdrewN hbw _⟩
      · have HF := hide (show a = b by
          have h := HE.out
          have := HN.out
          rwa [List.take_of_length_le (by omega), List.take_of_length_le (by omega)] at h)
        go_wp2
        go_ret
        exact ⟨ret_bool (by rw [HF.out]; simp), hbw⟩
  · have q : (((a.length : Int)) != ((b.length : Int))) = true := by rw [bne_iff_ne]; omega
    have HN := hide (show decide (a = b) = false by simp; intro e; exact hn (by rw [e]))
    clear hn
    go_enter Tryz.func134, Tryz.ntmps134
    go_wp2
    go_ret
    exact ⟨ret_bool HN.out.symm, Below.refl _ _⟩
set_option maxHeartbeats 2000000 in
theorem EqualFunc_ops (va vb : Value) (a b : List (List Oq)) (w : World) (ha : GridO w va a) (hb : GridO w vb b) :
    Calls Tryz.prog 133 #[va, vb, .func (.func 134) #[] #[]] w fun e w' => e = .returned (.bool (decide (a = b))) ∧ Below w.heap.size w w' := by
  obtain ⟨A, c, rfl, h1, h2⟩ := ha.form
  obtain ⟨B, d, rfl, h3, h4⟩ := hb.form
  unfold maxLen at h2 h4
  have HA := hide ha
  have HB := hide hb
  clear ha hb
  by_cases hn : a.length = b.length
  · have q : (((a.length : Int)) != ((b.length : Int))) = false := by rw [bne_eq_false_iff_eq]; omega
    have HN := hide hn
    clear hn
    go_enter Tryz.func133, Tryz.ntmps133
    go_wp2
    go_loopw [17] (fun i wr => ∃ k : Nat, k ≤ a.length ∧ i = .int .i64 k ∧ Below w.heap.size w wr ∧ Hid (a.take k = b.take k)) (fun i _ => a.length - (Go.RowKit.intOf i).toNat)
    case atStart => exact ⟨0, Nat.zero_le _, rfl, Below.refl _ _, hide (by simp)⟩
    case round =>
      obtain ⟨k, hk, rfl, hbw, HE⟩ := hrel
      by_cases hlt : k < a.length
      · have hlb : k < b.length := by have := HN.out; omega
        obtain ⟨b1, o1, u1, rfl, -, c0, r1⟩ := gridO_at (HA.out.below hbw) hlt
        obtain ⟨b2, o2, u2, rfl, -, c2, r2⟩ := gridO_at (HB.out.below hbw) hlb
        have hT := hide (show a.take (k + 1) = a.take k ++ [a[k]] ∧ b.take (k + 1) = b.take k ++ [b[k]] from ⟨List.take_succ_eq_append_getElem hlt, List.take_succ_eq_append_getElem hlb⟩)
        have hG := hide (show a = b → a[k] = b[k] by intro h; simp [h])
        generalize a[k] = x at *
        generalize b[k] = y at *
        have R1 := hide r1
        have R2 := hide r2
        obtain ⟨A1, d1, rfl, -⟩ := r1
        obtain ⟨A2, d2, rfl, -⟩ := r2
        go_wp2_with fail
        (with_reducible refine (Equal_ops _ _ x y _ R1.out R2.out).mono ?_)
        rintro e w2 ⟨rfl, hb2⟩
        by_cases he : x = y
        · rw [decide_eq_true he]
          have HE' := hide (show a.take (k + 1) = b.take (k + 1) by rw [hT.out.1, hT.out.2, HE.out, he])
          clear he
          go_wp2
          go_roundw
          case rel => exact ⟨k + 1, by omega, by go_num, bcall hbw hb2, HE'⟩
          case measure => simp [Go.RowKit.intOf]; omega
        · rw [decide_eq_false he]
          have HF := hide (show decide (a = b) = false by
            simp only [decide_eq_false_iff_not]
            exact fun h => he (hG.out h))
          clear he
          go_wp2
          go_ret
          exact ⟨ret_bool HF.out.symm, bcall hbw hb2⟩
      · have HF := hide (show a = b by
          have h := HE.out
          have := HN.out
          rwa [List.take_of_length_le (by omega), List.take_of_length_le (by omega)] at h)
        go_wp2
        go_ret
        exact ⟨ret_bool (by rw [HF.out]; simp), hbw⟩
  · have q : (((a.length : Int)) != ((b.length : Int))) = true := by rw [bne_iff_ne]; omega
    have HN := hide (show decide (a = b) = false by simp; intro e; exact hn (by rw [e]))
    clear hn
    go_enter Tryz.func133, Tryz.ntmps133
    go_wp2
    go_ret
    exact ⟨ret_bool HN.out.symm, Below.refl _ _⟩
abbrev numV (a b c d e f g h : Int) : Value := .agg #[.int .i64 a, .int .i64 b, .int .i64 c, .int .i64 d, .int .i64 e, .int .i64 f, .int .i64 g, .int .i64 h]
theorem eqIn_nums (a b c d e f g h a' b' c' d' e' f' g' h' : Int) (w : World) : (Op.equalIn 10000 216 (numV a b c d e f g h) (numV a' b' c' d' e' f' g' h')).run Tryz.prog w = .ok (decide ([a, b, c, d, e, f, g, h] = [a', b', c', d', e', f', g', h'])) w := by
  obtain ⟨i, hi⟩ := Option.isSome_iff_exists.1 (show (Tryz.prog.info? 2).isSome = true by kernel_rfl)
  rw [run_equalIn_array w 9999 _ _ (n := 8) (e := 2) (by kernel_rfl) hi]
  have hc : Tryz.prog.cellsOf 2 = 1 := by kernel_rfl
  have hu : Tryz.prog.underlying 2 = some (.int .i64) := by kernel_rfl
  rw [hc]
  have hr : List.range 8 = [0, 1, 2, 3, 4, 5, 6, 7] := rfl
  rw [hr]
  have key : ∀ (xs ys : List Int) (is : List Nat) (X Y : Array Value), (∀ (p i : Nat), is[p]? = some i → ∃ x y, xs[p]? = some x ∧ ys[p]? = some y ∧ (part 2 X (i * 1)).run Tryz.prog w = .ok (.int .i64 x) w ∧ (part 2 Y (i * 1)).run Tryz.prog w = .ok (.int .i64 y) w) →
      xs.length = is.length → ys.length = is.length → (Op.eqItems 9999 2 1 X Y is).run Tryz.prog w = .ok (decide (xs = ys)) w := by
    intro xs
    induction xs with
    | nil =>
      intro ys is X Y _ h1 h2
      obtain rfl : is = [] := List.length_eq_zero_iff.1 h1.symm
      obtain rfl : ys = [] := List.length_eq_zero_iff.1 h2
      simp [Op.eqItems]
    | cons x xs ih =>
      intro ys is X Y hp h1 h2
      cases is with
      | nil => simp at h1
      | cons i is =>
        cases ys with
        | nil => simp at h2
        | cons y ys =>
          obtain ⟨x', y', ex, ey, p1, p2⟩ := hp 0 i rfl
          obtain rfl : x = x' := by simpa using ex
          obtain rfl : y = y' := by simpa using ey
          rw [Op.eqItems, Sem.run_bind, p1, Result.andThen_ok, Sem.run_bind, p2, Result.andThen_ok, Sem.run_bind, run_equalIn_int w 9998 _ .i64 .i64 x y hu, Result.andThen_ok]
          by_cases hxy : x = y
          · have := ih ys is X Y (fun p j hj => by obtain ⟨u, v, q⟩ := hp (p + 1) j (by simpa using hj); exact ⟨u, v, by simpa using q⟩) (by simpa using h1) (by simpa using h2)
            simp [hxy, this]
          · simp [hxy]
  refine key _ _ _ _ _ ?_ rfl rfl
  intro p i hp
  have : p < 8 := (List.getElem?_eq_some_iff.1 hp).1
  rcases (by omega : p = 0 ∨ p = 1 ∨ p = 2 ∨ p = 3 ∨ p = 4 ∨ p = 5 ∨ p = 6 ∨ p = 7) with rfl | rfl | rfl | rfl | rfl | rfl | rfl | rfl
  all_goals (simp only [List.getElem?_cons_succ, List.getElem?_cons_zero, Option.some.injEq] at hp; subst hp; refine ⟨_, _, rfl, rfl, ?_, ?_⟩ <;> simp [go_sem])
theorem eql_nums (a b c d e f g h a' b' c' d' e' f' g' h' : Int) (w : World) : (binOp .eql 216 (numV a b c d e f g h) (numV a' b' c' d' e' f' g' h')).run Tryz.prog w = .ok (.bool (decide ([a, b, c, d, e, f, g, h] = [a', b', c', d', e', f', g', h']))) w := by
  rw [run_eql_struct, eqIn_nums]; rfl
set_option maxRecDepth 100000 in
set_option maxHeartbeats 4000000 in
theorem numbersOf_any (a b c d e f g h n : Int) (ob : Value) (s : Nat) (rg pg pk : Value) (w : World) :
    Calls Tryz.prog 132 #[planV a b c d e f g h n ob s rg pg pk] w fun x w' => x = .returned (numV a b c d e f g h) ∧ Below w.heap.size w w' := by
  obtain ⟨w1, e1, hb1, hs1, X⟩ := bp_new w a b c d e f g h n ob s rg pg pk 30
  have HE := hide e1
  have HB1 := hide hb1
  have HX := hide X
  have HS1 := hide hs1
  have HN := hide (show (w1.alloc (.cells #[.int .i64 a, .int .i64 b, .int .i64 c, .int .i64 d, .int .i64 e, .int .i64 f, .int .i64 g, .int .i64 h] 216)).heap[w.heap.size + 1]? = some (.cells #[.int .i64 a, .int .i64 b, .int .i64 c, .int .i64 d, .int .i64 e, .int .i64 f, .int .i64 g, .int .i64 h] 216 (0, 0)) from by rw [← hs1]; exact heap_alloc_new w1 _)
  obtain ⟨x0, x1, x2, x3, x4, x5, x6, x7⟩ := (X.below ((Below.refl _ w1).alloc (Nat.le_refl _) (.cells #[.int .i64 0, .int .i64 0, .int .i64 0, .int .i64 0, .int .i64 0, .int .i64 0, .int .i64 0, .int .i64 0] 216))).all
  clear e1 X hb1 hs1
  unfold planV
  go_enter Tryz.func132, Tryz.ntmps132
  go_wp2_with fail
  rw [HE.out]
  go_wp2
  refine bodyPost_ret (results_row Tryz.results132 (w.heap.size + 1) rfl _ _ _ _ HN.out Tryz.underlying216 rfl (by kernel_rfl)) rfl ?_
  exact ⟨rfl, (HB1.out).alloc (by rw [HS1.out]; omega) _⟩
end Go.Proofs.YtdmbcjckgfjcaaaGreatDoor
