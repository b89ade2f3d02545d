/- Layer reach: the document's own answer: Dist. -/
import Derived.Test.YtohfpcnekfpdkaaDoorRefReach2
import Derived.Test.YtohfpcnekfpdkaaDoorReachF
import Derived.Test.YtohfpcnekfpdkaaDoorHeapAllocM
namespace Go.Proofs.YtohfpcnekfpdkaaDoor
open Go.RowKit

def dstN (ls : Rws) (r d : Nat) (x : Int) : Int :=
  match (List.range (d + 1)).find? fun k => hasF (levF ls allN r k) x with
  | some k => (k : Int)
  | none => -1
theorem lev_all (ls : Rws) (k : Nat) {r : Nat} (hr : r < 18446744073709551616) : levF ls allN r (k + 1) = levF ls allN r k ||| nextF ls (levF ls allN r k) := by
  have : levF ls allN r k &&& allN = levF ls allN r k := has_ext (land_lt _ (lev_lt ls allN hr k)) (lev_lt ls allN hr k) fun x => by
    rw [has_and, Bool.and_eq_true]
    exact ⟨(·.1), fun h => ⟨h, has_all x (has_rng h)⟩⟩
  rw [levF, this]
theorem dstN_zero (ls : Rws) (r : Nat) (x : Int) : dstN ls r 0 x = if hasF (levF ls allN r 0) x then 0 else -1 := by
  unfold dstN
  rw [show List.range (0 + 1) = [0] from rfl]
  cases h : hasF (levF ls allN r 0) x <;> simp [h]
theorem dstN_ge (ls : Rws) (r d : Nat) (x : Int) : -1 ≤ dstN ls r d x ∧ dstN ls r d x ≤ d := by
  unfold dstN
  rcases h : (List.range (d + 1)).find? fun k => hasF (levF ls allN r k) x with _ | k
  · simp only; omega
  · have := List.mem_range.1 (List.mem_of_find?_eq_some h)
    simp only; omega
theorem dstN_succ (ls : Rws) (d : Nat) {r : Nat} (hr : r < 18446744073709551616) (x : Int) : dstN ls r (d + 1) x = if dstN ls r d x < 0 ∧ hasF (nextF ls (levF ls allN r d)) x = true then (d : Int) + 1 else dstN ls r d x := by
  have h0 : dstN ls r (d + 1) x = match ((List.range (d + 1)).find? fun k => hasF (levF ls allN r k) x).or ([d + 1].find? fun k => hasF (levF ls allN r k) x) with | some k => (k : Int) | none => -1 := by
    unfold dstN
    rw [List.range_succ (n := d + 1), List.find?_append]
  rw [h0]
  unfold dstN
  rcases h : (List.range (d + 1)).find? fun k => hasF (levF ls allN r k) x with _ | k
  · have hno := List.find?_eq_none.1 h d (List.mem_range.2 (by omega))
    have hl : hasF (levF ls allN r (d + 1)) x = hasF (nextF ls (levF ls allN r d)) x := by
      rw [lev_all ls d hr, has_or]
      cases hd : hasF (levF ls allN r d) x with
      | false => rfl
      | true => exact absurd hd hno
    simp only [Option.none_or, List.find?_cons, List.find?_nil, hl]
    cases hn : hasF (nextF ls (levF ls allN r d)) x <;> simp
  · simp only [Option.some_or]
    rw [if_neg (by omega)]
theorem cnt_first : ∀ m : Fin 65, ((List.range 64).filter fun i => decide (i < m.val)).length = m.val := by decide +kernel
theorem lev_cnt (ls : Rws) (opn r k : Nat) : cntF (levF ls opn r k) ≤ min ls.length 64 := by
  by_cases h : 64 ≤ ls.length
  · have := cnt_le (levF ls opn r k); omega
  · have h1 := cnt_first ⟨ls.length, by omega⟩
    have h2 := flt_le (fun i => (levF ls opn r k).testBit i) (fun i => decide (i < ls.length)) (fun i hi => by
      rw [decide_eq_true_iff]
      by_cases h64 : i < 64
      · rw [← has_bit _ _ h64] at hi
        have := (lev_in _ _ _ _ _ hi).2.2
        omega
      · exfalso
        by_cases hk : levF ls opn r k < 18446744073709551616
        · exact h64 (testBit_high hk hi)
        · have hlt : ∀ j, levF ls opn r j < 18446744073709551616 := fun j => by
            induction j with
            | zero =>
              unfold levF
              exact Nat.lt_of_le_of_lt Nat.and_le_right (own_lt ls)
            | succ j ih => exact lor_lt ih (next_lt _ _)
          exact hk (hlt k)) (List.range 64)
    unfold cntF objs
    rw [List.length_map]
    simp only at h1
    omega
theorem lev_end (ls : Rws) {r : Nat} (hr : r < 18446744073709551616) (j : Nat) (hj : min ls.length 64 ≤ j) : levF ls allN r j = levF ls allN r (min ls.length 64) := by
  rcases lev_grow ls allN hr (min ls.length 64 + 1) with ⟨i, hi, h⟩ | h
  · rw [lev_stable ls allN r i h j (by omega), lev_stable ls allN r i h (min ls.length 64) (by omega)]
  · have := lev_cnt ls allN r (min ls.length 64 + 1); omega
theorem dstN_end (ls : Rws) {r : Nat} (hr : r < 18446744073709551616) (x : Int) : dstN ls r (min ls.length 64) x = dstF ls allN r x := by
  obtain ⟨e, he⟩ : ∃ e, 65 = (min ls.length 64 + 1) + e := ⟨64 - min ls.length 64, by omega⟩
  unfold dstN dstF
  rw [he, show List.range (min ls.length 64 + 1 + e) = List.range (min ls.length 64 + 1) ++ (List.range e).map (fun i => min ls.length 64 + 1 + i) from List.range_add .., List.find?_append]
  rcases h : (List.range (min ls.length 64 + 1)).find? fun k => hasF (levF ls allN r k) x with _ | k
  · have hno := List.find?_eq_none.1 h (min ls.length 64) (List.mem_range.2 (by omega))
    have h2 : ((List.range e).map fun i => min ls.length 64 + 1 + i).find? (fun k => hasF (levF ls allN r k) x) = none := by
      rw [List.find?_eq_none]
      intro k hk hh
      obtain ⟨i, _, rfl⟩ := List.mem_map.1 hk
      rw [lev_end ls hr _ (by omega)] at hh
      exact hno hh
    rw [h2]; rfl
  · rfl

abbrev RowI (w : World) (b : Nat) (l : List Int) : Prop := w.heap[b]? = some (.cells (fa l) 3 (0, 0))
theorem row_cell {w : World} {b : Nat} {l : List Int} (h : RowI w b l) (k : Nat) (x : Int) (hk : l[k]? = some x) : w.cell? ⟨b, k, none⟩ = some (.int .i64 x) := by
  rw [cell_of_row _ _ _ _ _ _ h]; simp [hk]
theorem row_free {w : World} {b : Nat} {l : List Int} (h : RowI w b l) (k : Nat) : w.frozen? ⟨b, k, none⟩ = false := frozen_of_row _ _ _ _ _ h
theorem row_set {w : World} {b : Nat} {l : List Int} (h : RowI w b l) (k : Nat) (d : Int) : RowI (w.setCell ⟨b, k, none⟩ (.int .i64 d)) b (l.set k d) := by
  show _ = _
  rw [heap_setCell_same _ _ _ _ _ _ h]
  congr 2
  simp [List.map_set]
theorem row_own {w : World} {b base : Nat} {l : List Int} (h : RowI w b l) (hb : base ≤ b) (hm : l.length ≤ maxLen) : w.ownsRow base 3 1 (.slice (some ⟨b, 0, none⟩) l.length l.length) l.length (l.flatMap ic) := by
  rw [← ic_map]
  exact ⟨by simp, .inr ⟨b, l.length, fa l, rfl, hb, h, Nat.le_refl _, hm, by simp, by rw [Nat.mul_one]; exact List.take_of_length_le (by simp)⟩⟩
/-- loops over the row -/
def iniR (ls : Rws) (r m k : Nat) : List Int := (List.range m).map fun (i : Nat) => if i < k then dstN ls r 0 ((i : Int) + 1) else 0
def mixR (ls : Rws) (r m d j : Nat) : List Int := (List.range m).map fun (i : Nat) => if i < j then dstN ls r (d + 1) ((i : Int) + 1) else dstN ls r d ((i : Int) + 1)
theorem range_set {α : Type} (m k : Nat) (f g : Nat → α) (h : ∀ i, i ≠ k → f i = g i) : ((List.range m).map f).set k (g k) = (List.range m).map g := by
  apply List.ext_getElem?
  intro i
  by_cases hi : i < m
  · rw [List.getElem?_set]
    by_cases e : k = i
    · subst e
      simp [hi]
    · rw [if_neg e, List.getElem?_map, List.getElem?_map, List.getElem?_range hi]
      simp only [Option.map_some]
      rw [h i (fun h => e h.symm)]
  · rw [List.getElem?_eq_none (by simp; omega), List.getElem?_eq_none (by simp; omega)]
theorem ini_set (ls : Rws) (r m k : Nat) : (iniR ls r m k).set k (dstN ls r 0 ((k : Int) + 1)) = iniR ls r m (k + 1) := by
  have := range_set m k (fun i : Nat => if i < k then dstN ls r 0 ((i : Int) + 1) else 0) (fun i : Nat => if i < k + 1 then dstN ls r 0 ((i : Int) + 1) else 0) (fun i hi => by
    by_cases h : i < k
    · rw [if_pos h, if_pos (by omega)]
    · rw [if_neg h, if_neg (by omega)])
  simp only [Nat.lt_add_one, if_true] at this
  exact this
theorem ini_at (ls : Rws) (r m k : Nat) (h : k < m) : ∃ x, (iniR ls r m k)[k]? = some x := ⟨_, List.getElem?_eq_getElem (by unfold iniR; simpa using h)⟩
theorem mix_set (ls : Rws) (r m d j : Nat) : (mixR ls r m d j).set j (dstN ls r (d + 1) ((j : Int) + 1)) = mixR ls r m d (j + 1) := by
  have := range_set m j (fun i : Nat => if i < j then dstN ls r (d + 1) ((i : Int) + 1) else dstN ls r d ((i : Int) + 1)) (fun i : Nat => if i < j + 1 then dstN ls r (d + 1) ((i : Int) + 1) else dstN ls r d ((i : Int) + 1)) (fun i hi => by
    by_cases h : i < j
    · rw [if_pos h, if_pos (by omega)]
    · rw [if_neg h, if_neg (by omega)])
  simp only [Nat.lt_add_one, if_true] at this
  exact this
theorem mix_at (ls : Rws) (r m d j : Nat) (h : j < m) : (mixR ls r m d j)[j]? = some (dstN ls r d ((j : Int) + 1)) := by
  unfold mixR
  rw [List.getElem?_map, List.getElem?_range h]; simp
theorem mix_same (ls : Rws) (r m d j : Nat) (h : dstN ls r (d + 1) ((j : Int) + 1) = dstN ls r d ((j : Int) + 1)) : mixR ls r m d j = mixR ls r m d (j + 1) := by
  unfold mixR
  apply List.map_congr_left
  intro i _
  by_cases e : i = j
  · subst e; rw [if_neg (by omega), if_pos (by omega), h]
  · by_cases h2 : i < j
    · rw [if_pos h2, if_pos (by omega)]
    · rw [if_neg h2, if_neg (by omega)]
theorem mix_end (ls : Rws) (r m d j : Nat) (h : m ≤ j) : mixR ls r m d j = mixR ls r m (d + 1) 0 := by
  unfold mixR
  apply List.map_congr_left
  intro i hi
  rw [List.mem_range] at hi
  rw [if_pos (by omega), if_neg (by omega)]
theorem ini_end (ls : Rws) (r m k : Nat) (h : m ≤ k) : iniR ls r m k = mixR ls r m 0 0 := by
  unfold iniR mixR
  apply List.map_congr_left
  intro i hi
  rw [List.mem_range] at hi
  rw [if_pos (by omega), if_neg (by omega)]
theorem mix_dist (ls : Rws) {r : Nat} (hr : r < 18446744073709551616) : mixR ls r (min ls.length 64) (min ls.length 64) 0 = distF ls r := by
  unfold mixR distF
  apply List.map_congr_left
  intro i _
  rw [if_neg (by omega), dstN_end ls hr]
theorem ini_zero (ls : Rws) (r m : Nat) : fa (iniR ls r m 0) = madeCells #[.int .i64 0] m := by
  have : iniR ls r m 0 = List.replicate m 0 := by
    unfold iniR
    apply List.ext_getElem?
    intro i
    by_cases hi : i < m
    · rw [List.getElem?_map, List.getElem?_range hi, List.getElem?_replicate, if_pos hi]; simp
    · rw [List.getElem?_eq_none (by simp; omega), List.getElem?_eq_none (by simp; omega)]
  rw [madeZero, this]
  show ((List.replicate m (0 : Int)).map (Value.int .i64)).toArray = _
  rw [ic_map]
theorem mix_len (ls : Rws) (r m d j : Nat) : (mixR ls r m d j).length = m := by simp [mixR]
set_option maxRecDepth 100000 in
set_option maxHeartbeats 4000000 in
theorem rDist_any (n : Int) (v : Value) (ls : Rws) (r : Nat) (w : World) (hr : r < 18446744073709551616) (h : Grid w v ls) (hR : Rng ls) :
    Calls Tryd.prog 30 #[hv n v, .int .u64 r] w fun e w' => ∃ v', e = .returned v' ∧ w'.ownsRow w.heap.size 3 1 v' (distF ls r).length ((distF ls r).flatMap ic) ∧ Below w.heap.size w w' := by
  have HG := hide h
  have HR := hide hR
  obtain ⟨A, c, rfl, h1, h2⟩ := h.form
  unfold maxLen at h2
  obtain ⟨w1, e1, hb1, -, -, x0, x1⟩ := box1 w (.int .i64 n) (.slice A ls.length c) 26
  have H1 := hide e1
  have hs1 : w1.heap.size = w.heap.size + 1 := by rw [← e1]; simp
  obtain ⟨O, hO⟩ : ∃ O, ownF ls = O := ⟨_, rfl⟩
  have hOl : O < 18446744073709551616 := hO ▸ own_lt ls
  have HL0 := hide (show r &&& O = levF ls allN r 0 by rw [← hO]; rfl)
  have hand := bits_and_u64_nat r O hr hOl
  rw [HL0.out] at hand
  have HO := hide hO
  obtain ⟨m, hm⟩ : ∃ m : Nat, min (ls.length : Int) 64 = (m : Int) := ⟨(min (ls.length : Int) 64).toNat, by omega⟩
  have hm64 : m ≤ 64 := by omega
  have HM := hide (show min ls.length 64 = m by omega)
  have hmk := Go.run_make_row' (P := Tryd.prog) 54 3 (.int .i64 0) 8 Tryd.underlying54 infoInt rfl .i64 .i64 m (by omega) (by omega)
  obtain ⟨w2, e2⟩ : ∃ w2, w1.alloc (.cells (madeCells #[.int .i64 0] m) 3) = w2 := ⟨_, rfl⟩
  have hb2 : Below w1.heap.size w1 w2 := by rw [← e2]; exact bal _ _
  have hs2 : w2.heap.size = w1.heap.size + 1 := by rw [← e2]; simp
  have HRow2 := hide (show RowI w2 w1.heap.size (iniR ls r m 0) by
    show _ = _
    rw [ini_zero, ← e2]; exact heap_alloc_new _ _)
  have X0 := hide (keepc hb2 x0)
  have X1 := hide (keepc hb2 x1)
  have H2 := hide e2
  clear h hR e1 hO e2
  go_enter Tryd.func30, Tryd.ntmps30
  go_wp2_with fail
  rw [H1.out, H2.out]
  rw [hs1] at HRow2 hb2 hs2
  have hG2 := hide (HG.out.below (hb1.trans (hb2.mono (Nat.le_add_right _ 1))))
  (with_reducible refine (rown_c n _ ls _ hG2.out O HO.out).mono ?_)
  rintro e w3 ⟨rfl, hb3⟩
  have hsz3 := hb3.size
  have HRow3 := hide (show RowI w3 (w.heap.size + 1) (iniR ls r m 0) from (hb3.block _ (by omega)).trans HRow2.out)
  have X0 := hide (keepc hb3 X0.out)
  have X1 := hide (keepc hb3 X1.out)
  have HB03 := hide (show Below w.heap.size w w3 from (hb1.trans (hb2.mono (Nat.le_add_right _ 1))).trans (hb3.mono (by omega)))
  have hl0 := lev_lt ls allN hr 0
  obtain ⟨S0, hS0⟩ : ∃ S, levF ls allN r 0 = S := ⟨_, rfl⟩
  rw [hS0] at hand hl0
  have HS0 := hide hS0
  clear hS0 hmk hm
  go_wp2_with fail
  go_loopw [8] (fun i wi => ∃ k : Nat, k ≤ m ∧ i = .int .i64 k ∧ Hid (RowI wi (w.heap.size + 1) (iniR ls r m k)) ∧ Below (w.heap.size + 1) w3 wi) (fun i _ => m - (Go.RowKit.intOf i).toNat)
  case atStart => exact ⟨0, Nat.zero_le _, rfl, HRow3, Below.refl _ _⟩
  case round =>
    obtain ⟨k, hk, rfl, hRow, hb⟩ := hrel
    by_cases hlt : k < m
    · obtain ⟨x, hx⟩ := ini_at ls r m k hlt
      have c1 := row_cell hRow.out k x hx
      have f1 := row_free hRow.out k
      have hz := dstN_zero ls r ((k : Int) + 1)
      have hset := ini_set ls r m k
      rw [hz, HS0.out] at hset
      have HSet := hide hset
      obtain ⟨q, hq⟩ : ∃ q, hasF S0 ((k : Int) + 1) = q := ⟨_, rfl⟩
      have HQ := hide hq
      clear hx hz hset hq
      go_wp2_with fail
      (with_reducible refine (rHas_any S0 ((k : Int) + 1) _ hl0 (by omega) (by omega)).mono ?_)
      rintro e w4 ⟨rfl, rfl⟩
      rw [HQ.out]
      cases q with
      | true =>
        go_wp2
        go_roundw
        case rel =>
          refine ⟨k + 1, by omega, by go_num, hide ?_, (hb.setCell (by simp) _).setCell (by simp) _⟩
          have := row_set (row_set hRow.out k (-1)) k 0
          rw [List.set_set] at this
          rw [← HSet.out, HQ.out]; exact this
        case measure => simp [Go.RowKit.intOf]; omega
      | false =>
        go_wp2
        go_roundw
        case rel =>
          refine ⟨k + 1, by omega, by go_num, hide ?_, hb.setCell (by simp) _⟩
          have := row_set hRow.out k (-1)
          rw [← HSet.out, HQ.out]; exact this
        case measure => simp [Go.RowKit.intOf]; omega
    · have HRM := hide (show RowI wr (w.heap.size + 1) (mixR ls r m 0 0) by rw [← ini_end ls r m k (by omega)]; exact hRow.out)
      clear hRow
      go_wp2_with fail
      clear hlt hk
      go_loopw [7, 9] (fun s d wi => ∃ k : Nat, k ≤ m ∧ d = .int .i64 ((k : Int) + 1) ∧ s = .int .u64 (levF ls allN r k : Nat) ∧ Hid (RowI wi (w.heap.size + 1) (mixR ls r m k 0)) ∧ Below (w.heap.size + 1) w3 wi) (fun _ d _ => m + 1 - (Go.RowKit.intOf d).toNat)
      case atStart => exact ⟨0, Nat.zero_le _, rfl, by rw [HS0.out], HRM, hb⟩
      case round =>
        clear hb HRM
        obtain ⟨k, hk, rfl, rfl, hRow, hb⟩ := hrel
        have hsz := hb.size
        by_cases hlt : k < m
        · have hl := lev_lt ls allN hr k
          have hin : ∀ o, hasF (levF ls allN r k) o = true → o ≤ ls.length := fun o ho => (lev_in _ _ _ _ _ ho).2.2
          have hnx := lev_all ls k hr
          obtain ⟨S, hS⟩ : ∃ S, levF ls allN r k = S := ⟨_, rfl⟩
          have hsucc : ∀ y, dstN ls r (k + 1) y = if dstN ls r k y < 0 ∧ hasF (nextF ls S) y = true then (k : Int) + 1 else dstN ls r k y := fun y => by rw [dstN_succ ls k hr y, hS]
          rw [hS] at hl hin hnx
          rw [hS]
          obtain ⟨X, hX⟩ : ∃ X, nextF ls S = X := ⟨_, rfl⟩
          have hXl : X < 18446744073709551616 := hX ▸ next_lt _ _
          rw [hX] at hnx hsucc
          have hor := bits_or_u64_nat S X hl hXl
          rw [← hnx] at hor
          have HX := hide hX
          have HIn := hide hin
          have HSu := hide hsucc
          have x0 := (hb.cell (p := ⟨w.heap.size, 0, none⟩) (by simp)).trans X0.out
          have x1 := (hb.cell (p := ⟨w.heap.size, 1, none⟩) (by simp)).trans X1.out
          have HGr := hide (HG.out.below (HB03.out.trans (hb.mono (Nat.le_add_right _ 1))))
          clear hS hX hin hnx hsucc
          go_wp2_with fail
          (with_reducible refine (rnext_c n _ ls S _ hl HGr.out HR.out HIn.out X HX.out).mono ?_)
          rintro e w4 ⟨rfl, hb4⟩
          have hsz4 := hb4.size
          have HRow4 := hide (show RowI w4 (w.heap.size + 1) (mixR ls r m k 0) from (hb4.block _ (by omega)).trans hRow.out)
          clear x0 x1 hRow
          go_wp2_with fail
          go_loopw [11] (fun i wi => ∃ j : Nat, j ≤ m ∧ i = .int .i64 j ∧ Hid (RowI wi (w.heap.size + 1) (mixR ls r m k j)) ∧ Below (w.heap.size + 1) w4 wi) (fun i _ => m - (Go.RowKit.intOf i).toNat)
          case atStart => exact ⟨0, Nat.zero_le _, rfl, HRow4, Below.refl _ _⟩
          case round =>
            obtain ⟨j, hj, rfl, hRj, hbj⟩ := hrel
            by_cases hlj : j < m
            · have hmx := mix_at ls r m k j hlj
              have hge := dstN_ge ls r k ((j : Int) + 1)
              have hsu := HSu.out ((j : Int) + 1)
              have hsm := mix_same ls r m k j
              have hst := mix_set ls r m k j
              obtain ⟨d0, hd0⟩ : ∃ d0, dstN ls r k ((j : Int) + 1) = d0 := ⟨_, rfl⟩
              obtain ⟨q, hq⟩ : ∃ q, hasF X ((j : Int) + 1) = q := ⟨_, rfl⟩
              rw [hd0, hq] at hsu
              rw [hd0] at hmx hge hsm
              rw [hsu] at hsm hst
              have c1 := row_cell hRj.out j d0 hmx
              have f1 := row_free hRj.out j
              have HSm := hide hsm
              have HSt := hide hst
              have HQ := hide hq
              clear hmx hsu hsm hst hd0 hq
              go_wp2_with fail
              (with_reducible refine (rHas_any X ((j : Int) + 1) _ hXl (by omega) (by omega)).mono ?_)
              rintro e w5 ⟨rfl, rfl⟩
              rw [HQ.out]
              cases q with
              | false =>
                go_wp2
                go_roundw
                case rel => exact ⟨j + 1, by omega, by go_num, hide (by rw [← HSm.out (by simp)]; exact hRj.out), hbj⟩
                case measure => simp [Go.RowKit.intOf]; omega
              | true =>
                by_cases hd : d0 < 0
                · go_wp2
                  go_roundw
                  case rel =>
                    refine ⟨j + 1, by omega, by go_num, hide ?_, hbj.setCell (by simp) _⟩
                    have h5 := HSt.out
                    rw [if_pos ⟨hd, by simp⟩] at h5
                    rw [← h5]; exact row_set hRj.out j ((k : Int) + 1)
                  case measure => simp [Go.RowKit.intOf]; omega
                · go_wp2
                  go_roundw
                  case rel => exact ⟨j + 1, by omega, by go_num, hide (by rw [← HSm.out (by rw [if_neg (fun h => by have := h.1; omega)])]; exact hRj.out), hbj⟩
                  case measure => simp [Go.RowKit.intOf]; omega
            · have HEnd := hide (show RowI wr (w.heap.size + 1) (mixR ls r m (k + 1) 0) by rw [← mix_end ls r m k j (by omega)]; exact hRj.out)
              clear hRj
              go_wp2
              go_roundw
              case rel => exact ⟨k + 1, by omega, by go_num, rfl, HEnd, (hb.trans (hb4.mono (by omega))).trans hbj⟩
              case measure => simp [Go.RowKit.intOf]; omega
        · obtain rfl : k = m := by omega
          have hd := mix_dist ls hr
          rw [HM.out] at hd
          have HO2 := hide (row_own hRow.out (Nat.le_add_right w.heap.size 1) (by rw [mix_len]; unfold maxLen; omega))
          rw [mix_len, hd] at HO2
          have hdl : (distF ls r).length = k := by rw [← hd, mix_len]
          clear hd
          go_wp2
          go_ret
          refine ⟨_, rfl, ?_, HB03.out.trans (hb.mono (Nat.le_add_right _ 1))⟩
          rw [hdl]; exact HO2.out
end Go.Proofs.YtohfpcnekfpdkaaDoor
