/- Layer pick: the document's own answer: has, all, Known, Fair, Round; samePicks. -/
import Derived.Test.YtbnnhalbgkaedaaRef1
namespace Go.Proofs.Ytbnnhalbgkaedaa
open Go.RowKit

theorem fieldsRef : Try.prog.underlying 34 = some (.struct (Try.prog.fieldsOf 34)) := by kernel_rfl
theorem eqIn_ref (a b c d : Int) (w : World) : (Op.equalIn 10000 34 (.agg #[.int .i64 a, .int .i64 b]) (.agg #[.int .i64 c, .int .i64 d])).run Try.prog w = .ok (a == c && b == d) w := by
  rw [run_equalIn_agg w 9999 _ _ _ fieldsRef Try.stoodInHeld34]
  have hf : (Try.prog.fieldsOf 34).toList = [⟨ "Kind", 3, 0, false, "", "", 0⟩, ⟨ "N", 3, 1, false, "", "", 8⟩] := by kernel_rfl
  rw [hf]
  by_cases h : a = c <;> by_cases h' : b = d <;> simp [Op.eqFields, go_sem, h, h']
theorem neq_ref (a b c d : Int) (w : World) : (binOp .neq 34 (.agg #[.int .i64 a, .int .i64 b]) (.agg #[.int .i64 c, .int .i64 d])).run Try.prog w = .ok (.bool (!(a == c && b == d))) w := by
  rw [run_neq_struct, eqIn_ref]; rfl
theorem eql_ref (a b c d : Int) (w : World) : (binOp .eql 34 (.agg #[.int .i64 a, .int .i64 b]) (.agg #[.int .i64 c, .int .i64 d])).run Try.prog w = .ok (.bool (a == c && b == d)) w := by
  rw [run_eql_struct, eqIn_ref]; rfl

theorem rest_mem {l : List PP} {p : PP} {k : Nat} (hk : k ≤ l.length) (h : p ∉ l.take k) (hlt : ¬ k < l.length) : decide (p ∈ l) = false := by
  rw [List.take_of_length_le (by omega)] at h
  simpa using h
set_option maxHeartbeats 2000000 in
theorem has_any (v : Value) (l : List PP) (k n : Int) (w : World) (hl : Picks w v l) :
    Calls Try.prog 37 #[v, .agg #[.int .i64 k, .int .i64 n]] w fun e w' => e = .returned (.bool (decide ((k, n) ∈ l))) ∧ Below w.heap.size w w' := by
  have hlen := hl.len
  have hl' := hl
  obtain ⟨A, c, rfl, h1, h2, -⟩ := hl'
  unfold maxLen at h2 hlen
  have HL := hide hl
  clear hl
  go_enter Try.func37, Try.ntmps37
  go_wp2
  go_loopw [5] (fun i wr => ∃ j : Nat, j ≤ l.length ∧ i = .int .i64 j ∧ Below (w.heap.size + 1) (w.alloc (.cells #[.int .i64 k, .int .i64 n] 34)) wr ∧ Hid ((k, n) ∉ l.take j)) (fun i _ => l.length - (intOf i).toNat)
  case atStart => exact ⟨0, Nat.zero_le _, rfl, Below.refl _ _, hide (by simp)⟩
  case round =>
    obtain ⟨j, hj, rfl, hbw, HE⟩ := hrel
    have hb0 : Below w.heap.size w wr := ((Below.refl _ _).alloc (Nat.le_refl _) _).trans (hbw.mono (by omega))
    by_cases hlt : j < l.length
    · obtain ⟨b1, o1, rfl, _, c0, c1⟩ := picks_at (HL.out.below hb0) hlt
      have k0 : wr.cell? ⟨w.heap.size, 0, none⟩ = some (.int .i64 k) := (hbw.cell (p := ⟨w.heap.size, 0, none⟩) (by simp)).trans (by simp)
      have k1 : wr.cell? ⟨w.heap.size, 1, none⟩ = some (.int .i64 n) := (hbw.cell (p := ⟨w.heap.size, 1, none⟩) (by simp)).trans (by simp)
      have hnp := eql_ref (l[j]).1 (l[j]).2 k n
      by_cases he : l[j] = (k, n)
      · have e1 : ((l[j]).1 == k && (l[j]).2 == n) = true := by rw [he]; simp
        rw [e1] at hnp
        have HF := hide (show decide ((k, n) ∈ l) = true by rw [decide_eq_true_eq, ← he]; exact List.getElem_mem hlt)
        clear e1 he
        go_wp2
        go_quiet (fail)
        go_wp2
        go_ret
        exact ⟨ret_bool HF.out.symm, below_drewN hb0 _⟩
      · have e1 : ((l[j]).1 == k && (l[j]).2 == n) = false := by
          rw [← Bool.not_eq_true]; intro h
          simp only [Bool.and_eq_true, beq_iff_eq] at h
          exact he (Prod.ext h.1 h.2)
        rw [e1] at hnp
        have HE' := hide (show (k, n) ∉ l.take (j + 1) by
          rw [List.take_succ_eq_append_getElem hlt, List.mem_append, List.mem_singleton]
          rintro (h | h)
          · exact HE.out h
          · exact he h.symm)
        clear e1 he
        go_wp2
        go_quiet (fail)
        go_wp2
        go_roundw
        case rel => exact ⟨j + 1, by omega, by go_num, below_drewN hbw _, HE'⟩
        case measure => simp [intOf]; omega
    · have HF := hide (rest_mem hj HE.out hlt)
      go_wp2
      go_ret
      exact ⟨ret_bool HF.out.symm, hb0⟩

/-- the document's 'all' -/
def allL (l : List PP) (n m : Int) : Bool := decide (n ≤ 16) && decide (m ≤ 16) && (roundL n m).all fun p => decide (p ∈ l)
theorem all_no {l : List PP} {n m : Int} {p : PP} (hp : p ∈ roundL n m) (h : p ∉ l) : allL l n m = false := by
  unfold allL
  rw [List.all_eq_false.2 ⟨p, hp, by simpa using h⟩, Bool.and_false]
theorem mem_round_1 {n m i : Int} (h1 : 1 ≤ i) (h2 : i ≤ n) (h3 : n ≤ 16) : ((1, i) : PP) ∈ roundL n m := by
  simp only [roundL, List.mem_cons, List.mem_append, mem_kindsTo, upto16]
  refine .inr (.inl ⟨?_, h1, ?_⟩) <;> first | trivial | omega
theorem mem_round_2 {n m i : Int} (h1 : 1 ≤ i) (h2 : i ≤ m) (h3 : m ≤ 16) : ((2, i) : PP) ∈ roundL n m := by
  simp only [roundL, List.mem_cons, List.mem_append, mem_kindsTo, upto16]
  refine .inr (.inr ⟨?_, h1, ?_⟩) <;> first | trivial | omega
theorem all_yes {l : List PP} {n m : Int} (hn : n ≤ 16) (hm : m ≤ 16) (h0 : ((0, 0) : PP) ∈ l) (h1 : ∀ i, 1 ≤ i → i ≤ n → ((1, i) : PP) ∈ l) (h2 : ∀ i, 1 ≤ i → i ≤ m → ((2, i) : PP) ∈ l) : allL l n m = true := by
  unfold allL
  simp only [hn, hm, decide_true, Bool.true_and]
  refine List.all_eq_true.2 fun p hp => ?_
  obtain ⟨a, b⟩ := p
  simp only [roundL, List.mem_cons, List.mem_append, mem_kindsTo, upto16, Prod.mk.injEq] at hp
  rcases hp with ⟨rfl, rfl⟩ | ⟨h, h3, h4⟩ | ⟨h, h3, h4⟩
  · simpa using h0
  · subst h; simpa using h1 b h3 (by omega)
  · subst h; simpa using h2 b h3 (by omega)

set_option maxRecDepth 100000 in
set_option maxHeartbeats 4000000 in
theorem all_any (v : Value) (l : List PP) (n m : Int) (w : World) (hl : Picks w v l) (hn0 : -9223372036854775808 ≤ n) (hm0 : -9223372036854775808 ≤ m) :
    Calls Try.prog 34 #[v, .int .i64 n, .int .i64 m] w fun e w' => e = .returned (.bool (allL l n m)) ∧ Below w.heap.size w w' := by
  have HL := hide hl
  clear hl
  by_cases h0 : ((0, 0) : PP) ∈ l
  · have HD := hide (show decide (((0, 0) : PP) ∈ l) = true by simpa using h0)
    have H0 := hide h0
    clear h0
    by_cases hn : 16 < n
    · have HF := hide (show allL l n m = false by simp [allL]; omega)
      go_enter Try.func34, Try.ntmps34
      go_wp2_with fail
      (with_reducible refine (has_any _ l _ _ _ HL.out).mono ?_)
      rintro e w1 ⟨rfl, hb1⟩
      rw [HD.out]
      go_wp2
      go_ret
      exact ⟨ret_bool HF.out.symm, hb1⟩
    by_cases hm : 16 < m
    · have HF := hide (show allL l n m = false by simp [allL]; omega)
      go_enter Try.func34, Try.ntmps34
      go_wp2_with fail
      (with_reducible refine (has_any _ l _ _ _ HL.out).mono ?_)
      rintro e w1 ⟨rfl, hb1⟩
      rw [HD.out]
      go_wp2
      go_ret
      exact ⟨ret_bool HF.out.symm, hb1⟩
    go_enter Try.func34, Try.ntmps34
    go_wp2_with fail
    (with_reducible refine (has_any _ l _ _ _ HL.out).mono ?_)
    rintro e w1 ⟨rfl, hb1⟩
    rw [HD.out]
    go_wp2
    go_loopw [7] (fun i wr => ∃ j : Nat, 1 ≤ j ∧ j ≤ 17 ∧ i = .int .i64 j ∧ Below w.heap.size w wr ∧ Hid (∀ x : Int, 1 ≤ x → x < j → ((1, x) : PP) ∈ l)) (fun i _ => 17 - (intOf i).toNat)
    case atStart => exact ⟨1, Nat.le_refl _, by omega, rfl, hb1, hide (fun x h1 h2 => absurd h2 (by omega))⟩
    case round =>
      obtain ⟨j, hj1, hj2, rfl, hbw, HE1⟩ := hrel
      by_cases hlt : (j : Int) ≤ n
      · cases hh : decide (((1, (j : Int)) : PP) ∈ l)
        · have HF := hide (all_no (n := n) (m := m) (mem_round_1 (show (1 : Int) ≤ j by omega) hlt (by omega)) (by simpa using hh))
          have HH := hide hh
          clear hh
          go_wp2_with fail
          (with_reducible refine (has_any _ l _ _ _ (HL.out.below hbw)).mono ?_)
          rintro e w2 ⟨rfl, hb2⟩
          rw [HH.out]
          go_wp2
          go_ret
          exact ⟨ret_bool HF.out.symm, bcall hbw hb2⟩
        · have HN := hide (show ∀ x : Int, 1 ≤ x → x < ((j + 1 : Nat) : Int) → ((1, x) : PP) ∈ l by
            intro x h1 h2
            by_cases hx : x = j
            · rw [hx]; simpa using hh
            · exact HE1.out x h1 (by omega))
          have HH := hide hh
          clear hh
          go_wp2_with fail
          (with_reducible refine (has_any _ l _ _ _ (HL.out.below hbw)).mono ?_)
          rintro e w2 ⟨rfl, hb2⟩
          rw [HH.out]
          go_wp2
          go_roundw
          case rel => exact ⟨j + 1, by omega, by omega, by go_num, bcall hbw hb2, HN⟩
          case measure => simp [intOf]; omega
      · have hj1' := hlt
        clear hlt
        go_wp2
        go_loopw [8] (fun i wr => ∃ j : Nat, 1 ≤ j ∧ j ≤ 17 ∧ i = .int .i64 j ∧ Below w.heap.size w wr ∧ Hid (∀ x : Int, 1 ≤ x → x < j → ((2, x) : PP) ∈ l)) (fun i _ => 17 - (intOf i).toNat)
        case atStart => exact ⟨1, Nat.le_refl _, by omega, rfl, hbw, hide (fun x h1 h2 => absurd h2 (by omega))⟩
        case round =>
          obtain ⟨j, hj1, hj2, rfl, hbw, HE2⟩ := hrel
          by_cases hlt : (j : Int) ≤ m
          · cases hh : decide (((2, (j : Int)) : PP) ∈ l)
            · have HF := hide (all_no (n := n) (m := m) (mem_round_2 (show (1 : Int) ≤ j by omega) hlt (by omega)) (by simpa using hh))
              have HH := hide hh
              clear hh
              go_wp2_with fail
              (with_reducible refine (has_any _ l _ _ _ (HL.out.below hbw)).mono ?_)
              rintro e w2 ⟨rfl, hb2⟩
              rw [HH.out]
              go_wp2
              go_ret
              exact ⟨ret_bool HF.out.symm, bcall hbw hb2⟩
            · have HN := hide (show ∀ x : Int, 1 ≤ x → x < ((j + 1 : Nat) : Int) → ((2, x) : PP) ∈ l by
                intro x h1 h2
                by_cases hx : x = j
                · rw [hx]; simpa using hh
                · exact HE2.out x h1 (by omega))
              have HH := hide hh
              clear hh
              go_wp2_with fail
              (with_reducible refine (has_any _ l _ _ _ (HL.out.below hbw)).mono ?_)
              rintro e w2 ⟨rfl, hb2⟩
              rw [HH.out]
              go_wp2
              go_roundw
              case rel => exact ⟨j + 1, by omega, by omega, by go_num, bcall hbw hb2, HN⟩
              case measure => simp [intOf]; omega
          · have HF := hide (all_yes (n := n) (m := m) (by omega) (by omega) H0.out (fun x h1 h2 => HE1.out x h1 (by omega)) (fun x h1 h2 => HE2.out x h1 (by omega)))
            go_wp2
            go_ret
            exact ⟨ret_bool HF.out.symm, hbw⟩
  · have HF := hide (all_no (n := n) (m := m) (p := (0, 0)) (by simp [roundL]) h0)
    have HD := hide (show decide (((0, 0) : PP) ∈ l) = false by simpa using h0)
    clear h0
    go_enter Try.func34, Try.ntmps34
    go_wp2_with fail
    (with_reducible refine (has_any _ l _ _ _ HL.out).mono ?_)
    rintro e w1 ⟨rfl, hb1⟩
    rw [HD.out]
    go_wp2
    go_ret
    exact ⟨ret_bool HF.out.symm, hb1⟩
end Go.Proofs.Ytbnnhalbgkaedaa
