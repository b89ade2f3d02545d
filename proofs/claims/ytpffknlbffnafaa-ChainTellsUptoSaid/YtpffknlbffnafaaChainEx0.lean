/- Layer chain: cells that are made; are two lists the same? Contracts with named values. -/
import Derived.Test.YtpffknlbffnafaaChainLay
import Derived.Test.YtpffknlbffnafaaChainList
import Derived.Test.YtpffknlbffnafaaChainRun
import Derived.Deep.OwnRows
import Derived.Deep.QuietTactic
import Derived.BigQuiet
namespace Go.Proofs.Ytpffknlbffnafaa.ch
open Go.RowKit

theorem uc_map (l : List Int) : l.flatMap uc = l.map (Value.int .u64) := by
  induction l with
  | nil => rfl
  | cons x l ih => simp [List.flatMap_cons, ih, uc]
theorem madeU (N : Nat) : (madeCells #[Value.int .u64 0] N).toList = (List.replicate N (0 : Int)).flatMap uc := by
  rw [uc_map, List.map_replicate, toList_madeCells_one]
/-- cells that were made -/
def zc (n : Nat) : Obj := .cells (madeCells #[Value.int .u64 0] n) 24
theorem run_zero (n : Nat) (z : Int) (hz : (n : Int) = z) (hn : n ≤ 1000) (w : World) : (Instr.makeSlice 23 (.int .i64 z) (.int .i64 z)).run Try.prog w = .ok (.slice (some ⟨w.heap.size, 0, none⟩) n n) (w.alloc (zc n)) := by
  subst hz
  obtain ⟨i0, hi, hz0, hz1, hz2⟩ := info_parts infoU
  have h := run_makeSlice (P := Try.prog) (w := w) 23 24 i0 (.int .u64 0) Try.underlying23 hi hz0 .i64 .i64 (n : Int) (n : Int) (by omega) (Int.le_refl _) (by rw [hz1]; simp; omega) (by rw [hz2]; omega) (by omega)
  rw [hz1] at h
  have e : (Value.int .u64 0).cells = #[Value.int .u64 0] := rfl
  rw [e] at h
  simpa [zc] using h
theorem zc_cells (w : World) (n : Nat) (hn : n ≤ 1000) : Cells (w.alloc (zc n)) (.slice (some ⟨w.heap.size, 0, none⟩) n n) (List.replicate n 0) := by
  have h := World.ownsRow_lit w (madeCells #[Value.int .u64 0] n) n (base := w.heap.size) (e := 24) (size := 1) (Nat.le_refl _) (by unfold maxLen; omega) (by rw [size_madeCells, Nat.mul_one])
  rw [madeU] at h
  exact Sl.of_own (l := List.replicate n (0 : Int)) (base := w.heap.size) (e := 24) uc_len (by rw [List.length_replicate]; exact h)

set_option maxHeartbeats 2000000 in
theorem ints_any (va vb : Value) (a b : List Int) (w : World) (ha : Ints w va a) (hb : Ints w vb b) :
    Calls Try.prog 12 #[va, vb] w fun e w' => e = .returned (.bool (decide (a = b))) ∧ Below w.heap.size w w' := by
  have ha' := ha
  have hb' := hb
  obtain ⟨A, c, rfl, h1, h2, -⟩ := ha'
  obtain ⟨B, d, rfl, h3, h4, -⟩ := hb'
  unfold maxLen at h2 h4
  have HA := hide ha
  have HB := hide hb
  clear ha hb
  by_cases hn : a.length = b.length
  · have q : (((a.length : Int)) != ((b.length : Int))) = false := by rw [bne_eq_false_iff_eq]; omega
    have HN := hide hn
    clear hn
    go_enter Try.func12, Try.ntmps12
    go_wp2
    go_loopw [5] (fun i wr => ∃ k : Nat, k ≤ a.length ∧ i = .int .i64 k ∧ Below w.heap.size w wr ∧ Hid (a.take k = b.take k)) (fun i _ => a.length - (Go.RowKit.intOf i).toNat)
    case atStart => exact ⟨0, Nat.zero_le _, rfl, Below.refl _ _, hide (by simp)⟩
    case round =>
      obtain ⟨k, hk, rfl, hbw, HE⟩ := hrel
      by_cases hlt : k < a.length
      · have hlb : k < b.length := by have := HN.out; omega
        obtain ⟨b1, o1, rfl, -, c0⟩ := ints_at (HA.out.below hbw) hlt
        obtain ⟨b2, o2, rfl, -, c2⟩ := ints_at (HB.out.below hbw) hlb
        by_cases he : a[k] = b[k]
        · have e1 : (a[k] != b[k]) = false := by rw [bne_eq_false_iff_eq]; exact he
          have HE' := hide (show a.take (k + 1) = b.take (k + 1) by rw [List.take_succ_eq_append_getElem hlt, List.take_succ_eq_append_getElem hlb, HE.out, he])
          clear he
          generalize a[k] = x at *
          generalize b[k] = y at *
          go_wp2
          go_quiet (fail)
          go_wp2
          go_roundw
          case rel => exact ⟨k + 1, by omega, by go_num, bdrewN hbw _, HE'⟩
          case measure => simp [Go.RowKit.intOf]; omega
        · have e1 : (a[k] != b[k]) = true := by rw [bne_iff_ne]; exact he
          have HF := hide (show decide (a = b) = false by
            simp only [decide_eq_false_iff_not]
            intro h
            apply he
            simp [h])
          clear he
          generalize a[k] = x at *
          generalize b[k] = y at *
          go_wp2
          go_quiet (fail)
          go_wp2
          go_ret
          exact ⟨ret_bool HF.out.symm, bdrewN hbw _⟩
      · have HF := hide (show a = b by
          have h := HE.out
          have := HN.out
          rwa [List.take_of_length_le (by omega), List.take_of_length_le (by omega)] at h)
        go_wp2
        go_ret
        exact ⟨ret_bool (by rw [HF.out]; simp), hbw⟩
  · have q : (((a.length : Int)) != ((b.length : Int))) = true := by rw [bne_iff_ne]; omega
    have HN := hide (show decide (a = b) = false by simp; intro e; exact hn (by rw [e]))
    clear hn
    go_enter Try.func12, Try.ntmps12
    go_wp2
    go_ret
    exact ⟨ret_bool HN.out.symm, Below.refl _ _⟩
theorem ints_yes (va vb : Value) (a b : List Int) (hab : a = b) (w : World) (ha : Ints w va a) (hb : Ints w vb b) : Calls Try.prog 12 #[va, vb] w fun e w' => e = .returned (.bool true) ∧ Below w.heap.size w w' := by
  refine (ints_any va vb a b w ha hb).mono ?_
  rintro e w' ⟨rfl, h⟩
  exact ⟨ret_bool (decide_eq_true hab), h⟩
theorem run_c (k p s q b t x u : Int) (v : Value) (m : List Int) (w : World) (h : Cells w v m) (hbig : m.length * 8 ≤ 140737488351232) (most : Nat) (M : List Int) (k1 p1 s1 q1 b1 t1 x1 u1 : Int) (N : Nat)
    (hr : runC most m ⟨k, p, s, q, b, t, x, u⟩ = (M, ⟨k1, p1, s1, q1, b1, t1, x1, u1⟩, N)) (n : Nat) (hn : m.length = n) (hmost : most ≤ 1000) (mi Ni : Int) (hmi : (most : Int) = mi) (hNi : (N : Int) = Ni) :
    Calls Try.prog 23 #[v, mvv k p s q b t x u, .int .i64 mi] w fun e w' => ∃ A c, e = .returned (.tuple #[.slice A n c, mvv k1 p1 s1 q1 b1 t1 x1 u1, .int .i64 Ni]) ∧ (n ≤ c ∧ c ≤ 9223372036854775807) ∧ Cells w' (.slice A n c) M ∧ Below w.heap.size w w' := by
  subst hn hmi hNi
  refine (run_any k p s q b t x u v m w h hbig most hmost).mono ?_
  rw [hr]
  rintro e w' ⟨A, c, rfl, h1, h2, h3, h4⟩
  exact ⟨A, c, rfl, h1, h3, h4⟩
theorem lit_ints {w : World} (l : List Int) (n : Nat) (hn : l.length = n) (hl : n ≤ maxLen) : ∃ w1, w.alloc (.cells (l.flatMap ic).toArray 3) = w1 ∧ Below w.heap.size w w1 ∧ Ints w1 (.slice (some ⟨w.heap.size, 0, none⟩) n n) l := by
  subst hn
  exact ⟨_, rfl, bal _ _, Sl.of_own ic_len (own_new w w.heap.size (l.flatMap ic) 3 1 l.length (Nat.le_refl _) (flatMap_len ic_len l) hl)⟩
end Go.Proofs.Ytpffknlbffnafaa.ch
