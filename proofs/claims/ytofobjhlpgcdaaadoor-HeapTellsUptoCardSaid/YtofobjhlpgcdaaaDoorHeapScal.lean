/- Layer heap: what is asked of a heap, nothing written. -/
import Derived.Test.YtofobjhlpgcdaaaDoorHeapP
import Derived.Test.YtofobjhlpgcdaaaDoorGrid
import Derived.Deep.QuietTactic
import Derived.BigQuiet
namespace Go.Proofs.YtofobjhlpgcdaaaDoor
open Go.RowKit

abbrev hv (n : Int) (v : Value) : Value := .agg #[.int .i64 n, v]
theorem bal (w : World) (o : Obj) : Below w.heap.size w (w.alloc o) := (Below.refl _ _).alloc (Nat.le_refl _) o

theorem ret_gb {a b : Int} {c d : Bool} (h : a = b) (k : c = d) : Ending.returned (.tuple #[.int .i64 a, .bool c]) = .returned (.tuple #[.int .i64 b, .bool d]) := by rw [h, k]

theorem hasObject_any (n : Int) (v : Value) (ls : Rws) (o : Int) (w : World) (h : Grid w v ls) :
    Calls Tryd.prog 38 #[hv n v, .int .i64 o] w fun e w' => e = .returned (.bool (hasO ls o)) ∧ Below w.heap.size w w' := by
  obtain ⟨A, c, rfl, h1, h2⟩ := h.form
  unfold maxLen at h2
  clear h
  unfold hasO
  by_cases h0 : 1 ≤ o
  · by_cases hl : o ≤ (ls.length : Int)
    · rw [decide_eq_true (show 1 ≤ o ∧ o ≤ (ls.length : Int) from ⟨h0, hl⟩)]
      go_enter Tryd.func38, Tryd.ntmps38
      go_wp2
      go_ret
      exact ⟨rfl, bal _ _⟩
    · rw [decide_eq_false (show ¬ (1 ≤ o ∧ o ≤ (ls.length : Int)) from fun h => hl h.2)]
      go_enter Tryd.func38, Tryd.ntmps38
      go_wp2
      go_ret
      exact ⟨rfl, bal _ _⟩
  · rw [decide_eq_false (show ¬ (1 ≤ o ∧ o ≤ (ls.length : Int)) from fun h => h0 h.1)]
    go_enter Tryd.func38, Tryd.ntmps38
    go_wp2
    go_ret
    exact ⟨rfl, bal _ _⟩

/-- a boxed parameter, behind a call -/
theorem box2 {w w2 : World} {x y : Value} {t : TypeId} (hb : Below (w.alloc (.cells #[x, y] t)).heap.size (w.alloc (.cells #[x, y] t)) w2) :
    Below w.heap.size w w2 ∧ w.heap.size < w2.heap.size ∧ w2.cell? ⟨w.heap.size, 0, none⟩ = some x ∧ w2.cell? ⟨w.heap.size, 1, none⟩ = some y := by
  have h0 := row_new w [x, y] t 0 x rfl
  have h1 := row_new w [x, y] t 1 y rfl
  rw [add_none] at h0 h1
  have hs : w.heap.size + 1 ≤ w2.heap.size := by simpa using hb.size
  exact ⟨btr (bal _ _) hb (by simp), by omega, ((bcell hb).1 _ _ (by simp)).trans h0, ((bcell hb).1 _ _ (by simp)).trans h1⟩

set_option maxHeartbeats 1000000 in
theorem hasSlot_any (n : Int) (v : Value) (ls : Rws) (o s : Int) (w : World) (h : Grid w v ls) :
    Calls Tryd.prog 21 #[hv n v, .int .i64 o, .int .i64 s] w fun e w' => e = .returned (.bool (hasS ls o s)) ∧ Below w.heap.size w w' := by
  have HG := hide h
  obtain ⟨A, c, rfl, h1, h2⟩ := h.form
  unfold maxLen at h2
  clear h
  by_cases hO : 1 ≤ o ∧ o ≤ (ls.length : Int)
  · have hO1 := hide (show hasO ls o = true from decide_eq_true hO)
    obtain ⟨b, off, u, rfl, hb, hc, hr⟩ := grid_at HG.out (k := (o - 1).toNat) (by omega)
    rw [← rowF_mem hO] at hr
    obtain ⟨B, d, rfl, h3, h4, -⟩ := hr
    unfold maxLen at h4
    have hS := hide (show hasS ls o s = decide (0 ≤ s ∧ s < ((rowF ls o).length : Int)) by unfold hasS; congr 1; simp [hO.1, hO.2])
    generalize (rowF ls o).length = m at *
    obtain ⟨hO2, hO3⟩ := hO
    obtain ⟨k, rfl⟩ : ∃ k : Nat, o = (k : Int) + 1 := ⟨(o - 1).toNat, by omega⟩
    rw [show ((k : Int) + 1 - 1).toNat = k by omega] at hc
    have hkl : k < ls.length := by omega
    have HC := hide hc
    clear hc
    go_enter Tryd.func21, Tryd.ntmps21
    go_wp2_with fail
    refine (hasObject_any _ _ ls _ _ (HG.out.alloc _)).mono ?_
    rintro e w2 ⟨rfl, hb2⟩
    rw [hO1.out]
    obtain ⟨hB, hlt, c0, c1⟩ := box2 hb2
    have c2 := ((bcell hB).1 _ (off + k) hb).trans HC.out
    clear hb2
    by_cases hs : 0 ≤ s ∧ s < (m : Int)
    · rw [decide_eq_true hs] at hS
      obtain ⟨hs1, hs2⟩ := hs
      go_wp2
      go_ret
      exact ⟨ret_bool hS.out.symm, hB⟩
    · rw [decide_eq_false hs] at hS
      by_cases hs1 : 0 ≤ s
      · have hs2 : ¬ s < (m : Int) := fun h => hs ⟨hs1, h⟩
        clear hs
        go_wp2
        go_ret
        exact ⟨ret_bool (by rw [hS.out]; exact decide_eq_false (by omega)), hB⟩
      · clear hs
        go_wp2
        go_ret
        exact ⟨ret_bool hS.out.symm, hB⟩
  · have hO1 := hide (show hasO ls o = false from decide_eq_false hO)
    have hS := hide (show hasS ls o s = false from decide_eq_false fun h => hO ⟨h.1, h.2.1⟩)
    clear hO
    go_enter Tryd.func21, Tryd.ntmps21
    go_wp2_with fail
    refine (hasObject_any _ _ ls _ _ (HG.out.alloc _)).mono ?_
    rintro e w2 ⟨rfl, hb2⟩
    rw [hO1.out]
    obtain ⟨hB, hlt, c0, c1⟩ := box2 hb2
    clear hb2
    go_wp2
    go_ret
    exact ⟨ret_bool hS.out.symm, hB⟩

theorem mayHold_any (n : Int) (v : Value) (ls : Rws) (x : Int) (w : World) (h : Grid w v ls) :
    Calls Tryd.prog 24 #[hv n v, .int .i64 x] w fun e w' => e = .returned (.bool (mayF ls x)) ∧ Below w.heap.size w w' := by
  have HG := hide h
  obtain ⟨A, c, rfl, h1, h2⟩ := h.form
  unfold maxLen at h2
  clear h
  by_cases h0 : x = 0
  · subst h0
    have hS := hide (show mayF ls 0 = true from decide_eq_true ⟨by omega, by omega⟩)
    go_enter Tryd.func24, Tryd.ntmps24
    go_wp2
    go_ret
    exact ⟨ret_bool hS.out.symm, bal _ _⟩
  · have e0 : (x == 0) = false := by rw [beq_eq_false_iff_ne]; exact h0
    have hS := hide (show hasO ls x = mayF ls x by unfold hasO mayF; congr 1; exact propext ⟨fun h => ⟨by omega, h.2⟩, fun h => ⟨by omega, h.2⟩⟩)
    clear h0
    go_enter Tryd.func24, Tryd.ntmps24
    go_wp2_with fail
    refine (hasObject_any _ _ ls _ _ (HG.out.alloc _)).mono ?_
    rintro e w2 ⟨rfl, hb2⟩
    rw [hS.out]
    obtain ⟨hB, hlt, c0, c1⟩ := box2 hb2
    clear hb2
    go_wp2
    go_ret
    exact ⟨rfl, hB⟩

set_option maxHeartbeats 1000000 in
theorem Get_any (n : Int) (v : Value) (ls : Rws) (o s : Int) (w : World) (h : Grid w v ls) :
    Calls Tryd.prog 6 #[hv n v, .int .i64 o, .int .i64 s] w fun e w' => e = .returned (.tuple #[.int .i64 (getF ls o s), .bool (hasS ls o s)]) ∧ Below w.heap.size w w' := by
  have HG := hide h
  obtain ⟨A, c, rfl, h1, h2⟩ := h.form
  unfold maxLen at h2
  clear h
  by_cases hO : hasS ls o s = true
  · obtain ⟨a1, a2, a3, a4⟩ := hasS_iff.1 hO
    obtain ⟨b, off, u, rfl, hb, hc, hr⟩ := grid_at HG.out (k := (o - 1).toNat) (by omega)
    rw [← rowF_mem ⟨a1, a2⟩] at hr
    have HR := hide hr
    obtain ⟨B, d, rfl, h3, h4, -⟩ := hr
    unfold maxLen at h4
    obtain ⟨b2, off2, rfl, hb2, hc2⟩ := ints_at HR.out (k := s.toNat) (by omega)
    have hS := hide (show getF ls o s = (rowF ls o)[s.toNat]'(by omega) by
      unfold getF; rw [if_pos hO, List.getD_eq_getElem?_getD, List.getElem?_eq_getElem (by omega)]; rfl)
    have hO1 := hide hO
    generalize (rowF ls o)[s.toNat]'(by omega) = x at *
    clear HR hO
    generalize (rowF ls o).length = m at *
    obtain ⟨k, rfl⟩ : ∃ k : Nat, o = (k : Int) + 1 := ⟨(o - 1).toNat, by omega⟩
    obtain ⟨j, rfl⟩ : ∃ j : Nat, s = (j : Int) := ⟨s.toNat, by omega⟩
    rw [show ((k : Int) + 1 - 1).toNat = k by omega] at hc
    rw [Int.toNat_natCast] at hc2
    have hkl : k < ls.length := by omega
    have HC := hide hc
    have HC2 := hide hc2
    clear hc hc2
    go_enter Tryd.func6, Tryd.ntmps6
    go_wp2_with fail
    refine (hasSlot_any _ _ ls _ _ _ (HG.out.alloc _)).mono ?_
    rintro e w2 ⟨rfl, hbw⟩
    rw [hO1.out]
    obtain ⟨hB, hlt, c0, c1⟩ := box2 hbw
    have c2 := ((bcell hB).1 _ (off + k) hb).trans HC.out
    have c3 := ((bcell hB).1 _ (off2 + j) hb2).trans HC2.out
    clear hbw
    go_wp2
    go_ret2
    exact ⟨ret_gb hS.out.symm hO1.out.symm, hB⟩
  · have hO1 := hide (show hasS ls o s = false by simpa using hO)
    have hS := hide (show getF ls o s = 0 by unfold getF; rw [if_neg hO])
    clear hO
    go_enter Tryd.func6, Tryd.ntmps6
    go_wp2_with fail
    refine (hasSlot_any _ _ ls _ _ _ (HG.out.alloc _)).mono ?_
    rintro e w2 ⟨rfl, hbw⟩
    rw [hO1.out]
    obtain ⟨hB, hlt, c0, c1⟩ := box2 hbw
    clear hbw
    go_wp2
    go_ret2
    exact ⟨ret_gb hS.out.symm hO1.out.symm, hB⟩
end Go.Proofs.YtofobjhlpgcdaaaDoor
