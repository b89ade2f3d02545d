/- Layer bag: the document's own answer: Add, Less, Once. -/
import Derived.Test.YtggfckednjojgaaBagRefA
import Derived.Test.YtggfckednjojgaaSetRef
namespace Go.Proofs.Ytggfckednjojgaa
open Go.RowKit

set_option maxRecDepth 100000 in
set_option maxHeartbeats 4000000 in
theorem rAdd_c (v : Value) (b : List Int) (o n : Int) (w : World) (h : Ints w v b) (hn : Kw n) (hb : b.length ≤ 3000000) (r : List Int) (hr : addB b o n = r) (m : Nat) (hm : r.length = m) :
    Calls Try.prog 16 #[v, .int .i64 o, .int .i64 n] w fun e w' => ∃ A c, e = .returned (.slice A m c) ∧ (m ≤ c ∧ c ≤ 2 ^ 63 - 1) ∧ Ints w' (.slice A m c) r ∧ Below w.heap.size w w' := by
  obtain ⟨i0, hi, hz0, hz1, hz2⟩ := info_parts infoI
  obtain ⟨A, c, rfl, h1, h2⟩ := sl_form h
  obtain ⟨hn1, hn2⟩ := hn
  have HB := hide h
  clear h
  obtain ⟨L0, hL0, hD0⟩ : ∃ L0 : Nat, (n < -(b.length : Int) ∧ L0 = b.length ∨ ¬ n < -(b.length : Int) ∧ (L0 : Int) = -(min n 0)) ∧ delB o L0 b = delB o (-n).toNat b := by
    by_cases hc : n < -(b.length : Int)
    · exact ⟨b.length, .inl ⟨hc, rfl⟩, (del_more o _ b (by omega)).symm⟩
    · exact ⟨(-n).toNat, .inr ⟨hc, by omega⟩, rfl⟩
  have hL0b : L0 ≤ b.length := by omega
  have HR := hide (show normB (delB o L0 b ++ List.replicate (min n.toNat 1000) o) = r by rw [hD0]; exact hr)
  have hdl := del_le o L0 b
  clear hD0 hr
  rcases hL0 with ⟨hc, rfl⟩ | ⟨hc, hL⟩
  · go_enter Try.func16, Try.ntmps16
    go_wp2
    go_loopw [7, 8, 9] (fun v l i wr => ∃ (k L : Nat) (X : List Int), k ≤ b.length ∧ i = .int .i64 k ∧ l = .int .i64 L ∧ L ≤ b.length ∧ Hid (X ++ delB o L (b.drop k) = delB o b.length b) ∧ X.length ≤ k ∧ wr.ownsRow w.heap.size 3 1 v X.length (X.flatMap ic) ∧ Below w.heap.size w wr) (fun _ _ i _ => b.length - (Go.RowKit.intOf i).toNat)
    case atStart => exact ⟨0, b.length, [], Nat.zero_le _, rfl, rfl, by omega, hide (by simp), Nat.le_refl _, World.ownsRow_nil _ _ _ _, Below.refl _ _⟩
    case round =>
      obtain ⟨k, L, X, hk, rfl, rfl, hLb, HI, hXk, hown, hbw⟩ := hrel
      obtain ⟨A2, c2, rfl, p1, p2⟩ := own_form hown
      have hsz := hbw.size
      by_cases hlt : k < b.length
      · obtain ⟨b1, o1, rfl, -, d0⟩ := ints_at (HB.out.below hbw) hlt
        have hdr : b.drop k = b[k] :: b.drop (k + 1) := List.drop_eq_getElem_cons hlt
        have hinv := HI.out
        rw [hdr] at hinv
        generalize b[k] = x at *
        by_cases hx : x = o
        · have q : (x == o) = true := by simp [hx]
          by_cases hp : 0 < L
          · have hinv2 := hide (show X ++ delB o (L - 1) (b.drop (k + 1)) = delB o b.length b by rw [← hinv, delB, if_pos ⟨hx, hp⟩])
            clear hdr hinv hx
            go_wp2
            go_roundw
            case rel => exact ⟨k + 1, L - 1, X, by omega, by go_num, by rw [show ((L - 1 : Nat) : Int) = (L : Int) - 1 by omega], by omega, hinv2, by omega, hown, hbw⟩
            case measure => simp [Go.RowKit.intOf]; omega
          · have hinv2 := hide (show (X ++ [x]) ++ delB o L (b.drop (k + 1)) = delB o b.length b by rw [← hinv, delB, if_neg (fun h => hp h.2)]; simp)
            clear hdr hinv hx
            go_wp2_with (at_builtin; refine wpList_append_own _ rfl _ _ 22 rfl w.heap.size 3 i0 (.int .i64 0) 1 8 Try.underlying22 hi hz0 hz1 hz2 rfl (by decide) _ _ _ rfl (hown.alloc _) ⟨_, 0, none⟩ 1 1 [.int .i64 x] rfl rfl (row_at _ _ _ (by simp)) (by simp [Value.oneCell']) (by simp only [maxLen]; omega) (by omega) (by simp; omega) ?_; intro v' w3 hown' hgrow _)
            go_roundw
            case rel => exact ⟨k + 1, L, X ++ [x], by omega, by go_num, rfl, by omega, hinv2, by simp; omega, by rw [List.length_append, List.flatMap_append]; exact hown', (hbw.alloc (by omega) _).grown hgrow (by simp; omega) (own_ge hown)⟩
            case measure => simp [Go.RowKit.intOf]; omega
        · have q : (x == o) = false := by simp [hx]
          have hinv2 := hide (show (X ++ [x]) ++ delB o L (b.drop (k + 1)) = delB o b.length b by rw [← hinv, delB, if_neg (fun h => hx h.1)]; simp)
          clear hdr hinv hx
          go_wp2_with (at_builtin; refine wpList_append_own _ rfl _ _ 22 rfl w.heap.size 3 i0 (.int .i64 0) 1 8 Try.underlying22 hi hz0 hz1 hz2 rfl (by decide) _ _ _ rfl (hown.alloc _) ⟨_, 0, none⟩ 1 1 [.int .i64 x] rfl rfl (row_at _ _ _ (by simp)) (by simp [Value.oneCell']) (by simp only [maxLen]; omega) (by omega) (by simp; omega) ?_; intro v' w3 hown' hgrow _)
          go_roundw
          case rel => exact ⟨k + 1, L, X ++ [x], by omega, by go_num, rfl, by omega, hinv2, by simp; omega, by rw [List.length_append, List.flatMap_append]; exact hown', (hbw.alloc (by omega) _).grown hgrow (by simp; omega) (own_ge hown)⟩
          case measure => simp [Go.RowKit.intOf]; omega
      · have hX : X = delB o b.length b := by
          have := HI.out
          rw [List.drop_eq_nil_of_le (by omega)] at this
          simpa [delB] using this
        rw [← hX] at HR hdl
        clear HI hX
        have hown0 := hown
        have hbw0 := hbw
        go_wp2
        go_loopw [7, 10] (fun v i ws => ∃ m : Nat, m ≤ min n.toNat 1000 ∧ i = .int .i64 m ∧ ws.ownsRow w.heap.size 3 1 v (X.length + m) ((X ++ List.replicate m o).flatMap ic) ∧ Below w.heap.size w ws) (fun _ i _ => 1000 - (Go.RowKit.intOf i).toNat)
        case atStart => exact ⟨0, Nat.zero_le _, rfl, by simpa using hown0, hbw0⟩
        case round =>
          obtain ⟨m, hm2, rfl, hown, hbs⟩ := hrel
          obtain ⟨A4, c4, rfl, p3, p4⟩ := own_form hown
          have hsz2 := hbs.size
          by_cases hml : m < min n.toNat 1000
          · exact absurd hml (by omega)
          · have hmm : m = min n.toNat 1000 := by omega
            have hlen : (X ++ List.replicate m o).length = X.length + m := by simp
            rw [← hmm] at HR
            clear hmm
            obtain ⟨A5, c5, e5, ⟨q1, q2⟩, H5, -⟩ := own_c (w := wr) (w0 := w) (n := X.length + m) rfl hlen (by rw [hlen]; exact hown) (Below.refl _ _)
            injection e5 with e5 _ e6
            subst e5
            subst e6
            have H5 := hide H5
            by_cases t1 : (m : Int) < n
            · exact absurd t1 (by omega)
            · have t3 : decide ((m : Int) < n) = false := decide_eq_false t1
              go_wp2_with fail
              (with_reducible refine (rNorm_c _ (X ++ List.replicate m o) _ H5.out (by omega) r HR.out _ hm).mono ?_)
              rintro e w5 ⟨A6, c6, rfl, q6, H6, hb6⟩
              go_wp2
              go_ret
              exact ⟨A6, c6, rfl, q6, H6, hbs.trans (hb6.mono hbs.size)⟩
  · go_enter Try.func16, Try.ntmps16
    go_wp2
    go_loopw [7, 8, 9] (fun v l i wr => ∃ (k L : Nat) (X : List Int), k ≤ b.length ∧ i = .int .i64 k ∧ l = .int .i64 L ∧ L ≤ b.length ∧ Hid (X ++ delB o L (b.drop k) = delB o L0 b) ∧ X.length ≤ k ∧ wr.ownsRow w.heap.size 3 1 v X.length (X.flatMap ic) ∧ Below w.heap.size w wr) (fun _ _ i _ => b.length - (Go.RowKit.intOf i).toNat)
    case atStart => exact ⟨0, L0, [], Nat.zero_le _, rfl, by rw [hL], by omega, hide (by simp), Nat.le_refl _, World.ownsRow_nil _ _ _ _, Below.refl _ _⟩
    case round =>
      obtain ⟨k, L, X, hk, rfl, rfl, hLb, HI, hXk, hown, hbw⟩ := hrel
      obtain ⟨A2, c2, rfl, p1, p2⟩ := own_form hown
      have hsz := hbw.size
      by_cases hlt : k < b.length
      · obtain ⟨b1, o1, rfl, -, d0⟩ := ints_at (HB.out.below hbw) hlt
        have hdr : b.drop k = b[k] :: b.drop (k + 1) := List.drop_eq_getElem_cons hlt
        have hinv := HI.out
        rw [hdr] at hinv
        generalize b[k] = x at *
        by_cases hx : x = o
        · have q : (x == o) = true := by simp [hx]
          by_cases hp : 0 < L
          · have hinv2 := hide (show X ++ delB o (L - 1) (b.drop (k + 1)) = delB o L0 b by rw [← hinv, delB, if_pos ⟨hx, hp⟩])
            clear hdr hinv hx
            go_wp2
            go_roundw
            case rel => exact ⟨k + 1, L - 1, X, by omega, by go_num, by rw [show ((L - 1 : Nat) : Int) = (L : Int) - 1 by omega], by omega, hinv2, by omega, hown, hbw⟩
            case measure => simp [Go.RowKit.intOf]; omega
          · have hinv2 := hide (show (X ++ [x]) ++ delB o L (b.drop (k + 1)) = delB o L0 b by rw [← hinv, delB, if_neg (fun h => hp h.2)]; simp)
            clear hdr hinv hx
            go_wp2_with (at_builtin; refine wpList_append_own _ rfl _ _ 22 rfl w.heap.size 3 i0 (.int .i64 0) 1 8 Try.underlying22 hi hz0 hz1 hz2 rfl (by decide) _ _ _ rfl (hown.alloc _) ⟨_, 0, none⟩ 1 1 [.int .i64 x] rfl rfl (row_at _ _ _ (by simp)) (by simp [Value.oneCell']) (by simp only [maxLen]; omega) (by omega) (by simp; omega) ?_; intro v' w3 hown' hgrow _)
            go_roundw
            case rel => exact ⟨k + 1, L, X ++ [x], by omega, by go_num, rfl, by omega, hinv2, by simp; omega, by rw [List.length_append, List.flatMap_append]; exact hown', (hbw.alloc (by omega) _).grown hgrow (by simp; omega) (own_ge hown)⟩
            case measure => simp [Go.RowKit.intOf]; omega
        · have q : (x == o) = false := by simp [hx]
          have hinv2 := hide (show (X ++ [x]) ++ delB o L (b.drop (k + 1)) = delB o L0 b by rw [← hinv, delB, if_neg (fun h => hx h.1)]; simp)
          clear hdr hinv hx
          go_wp2_with (at_builtin; refine wpList_append_own _ rfl _ _ 22 rfl w.heap.size 3 i0 (.int .i64 0) 1 8 Try.underlying22 hi hz0 hz1 hz2 rfl (by decide) _ _ _ rfl (hown.alloc _) ⟨_, 0, none⟩ 1 1 [.int .i64 x] rfl rfl (row_at _ _ _ (by simp)) (by simp [Value.oneCell']) (by simp only [maxLen]; omega) (by omega) (by simp; omega) ?_; intro v' w3 hown' hgrow _)
          go_roundw
          case rel => exact ⟨k + 1, L, X ++ [x], by omega, by go_num, rfl, by omega, hinv2, by simp; omega, by rw [List.length_append, List.flatMap_append]; exact hown', (hbw.alloc (by omega) _).grown hgrow (by simp; omega) (own_ge hown)⟩
          case measure => simp [Go.RowKit.intOf]; omega
      · have hX : X = delB o L0 b := by
          have := HI.out
          rw [List.drop_eq_nil_of_le (by omega)] at this
          simpa [delB] using this
        rw [← hX] at HR hdl
        clear HI hX
        have hown0 := hown
        have hbw0 := hbw
        go_wp2
        go_loopw [7, 10] (fun v i ws => ∃ m : Nat, m ≤ min n.toNat 1000 ∧ i = .int .i64 m ∧ ws.ownsRow w.heap.size 3 1 v (X.length + m) ((X ++ List.replicate m o).flatMap ic) ∧ Below w.heap.size w ws) (fun _ i _ => 1000 - (Go.RowKit.intOf i).toNat)
        case atStart => exact ⟨0, Nat.zero_le _, rfl, by simpa using hown0, hbw0⟩
        case round =>
          obtain ⟨m, hm2, rfl, hown, hbs⟩ := hrel
          obtain ⟨A4, c4, rfl, p3, p4⟩ := own_form hown
          have hsz2 := hbs.size
          by_cases hml : m < min n.toNat 1000
          · have t1 : (m : Int) < n := by omega
            have t2 : (m : Int) < 1000 := by omega
            go_wp2_with (at_builtin; refine wpList_append_own _ rfl _ _ 22 rfl w.heap.size 3 i0 (.int .i64 0) 1 8 Try.underlying22 hi hz0 hz1 hz2 rfl (by decide) _ _ _ rfl (hown.alloc _) ⟨_, 0, none⟩ 1 1 [.int .i64 o] rfl rfl (row_at _ _ _ (by simp)) (by simp [Value.oneCell']) (by simp only [maxLen]; omega) (by omega) (by simp; omega) ?_; intro v' w3 hown' hgrow _)
            go_roundw
            case rel => exact ⟨m + 1, by omega, by go_num, by rw [List.replicate_succ', ← List.append_assoc, List.flatMap_append, ← Nat.add_assoc]; exact hown', (hbs.alloc (by omega) _).grown hgrow (by simp; omega) (own_ge hown)⟩
            case measure => simp [Go.RowKit.intOf]; omega
          · have hmm : m = min n.toNat 1000 := by omega
            have hlen : (X ++ List.replicate m o).length = X.length + m := by simp
            rw [← hmm] at HR
            clear hmm
            obtain ⟨A5, c5, e5, ⟨q1, q2⟩, H5, -⟩ := own_c (w := wr) (w0 := w) (n := X.length + m) rfl hlen (by rw [hlen]; exact hown) (Below.refl _ _)
            injection e5 with e5 _ e6
            subst e5
            subst e6
            have H5 := hide H5
            by_cases t1 : (m : Int) < n
            · have t2 : decide ((m : Int) < 1000) = false := decide_eq_false (by omega)
              go_wp2_with fail
              (with_reducible refine (rNorm_c _ (X ++ List.replicate m o) _ H5.out (by omega) r HR.out _ hm).mono ?_)
              rintro e w5 ⟨A6, c6, rfl, q6, H6, hb6⟩
              go_wp2
              go_ret
              exact ⟨A6, c6, rfl, q6, H6, hbs.trans (hb6.mono hbs.size)⟩
            · have t3 : decide ((m : Int) < n) = false := decide_eq_false t1
              go_wp2_with fail
              (with_reducible refine (rNorm_c _ (X ++ List.replicate m o) _ H5.out (by omega) r HR.out _ hm).mono ?_)
              rintro e w5 ⟨A6, c6, rfl, q6, H6, hb6⟩
              go_wp2
              go_ret
              exact ⟨A6, c6, rfl, q6, H6, hbs.trans (hb6.mono hbs.size)⟩

end Go.Proofs.Ytggfckednjojgaa
