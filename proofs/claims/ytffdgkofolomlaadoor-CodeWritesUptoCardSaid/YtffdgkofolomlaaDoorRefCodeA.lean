/- Layer code: the document's Right, letter, Text. -/
import Derived.Test.YtffdgkofolomlaaDoorBox4
import Derived.Test.YtffdgkofolomlaaDoorCodeP
import Derived.Test.YtffdgkofolomlaaDoorCore2
import Derived.Deep.Cut
import Derived.Deep.QuietTactic
import Derived.BigQuiet
import Derived.Laws.IdiomStrings
import Derived.Deep.RegionLaw
namespace Go.Proofs.YtffdgkofolomlaaDoor
open Go.RowKit

abbrev qv (k r a s : Int) : Value := .agg #[.int .i64 k, .int .i64 r, .int .i64 a, .int .i64 s]
theorem cbal (w : World) (o : Obj) : Below w.heap.size w (w.alloc o) := (Below.refl _ _).alloc (Nat.le_refl _) o
theorem ckeep {a b : World} {p : Addr} {v : Value} (hb : Below a.heap.size a b) (h : a.cell? p = some v) : b.cell? p = some v := by
  rw [hb.cell (World.block_lt_of_cell? _ _ h)]; exact h
theorem cRight_is {k r a s regs slots n m : Int} (hn : min regs 4 = n) (hm : min slots 4 = m) : cRight ⟨k, r, a, s⟩ regs slots =
    ((decide (0 ≤ r) && (decide (r < n) && (decide (0 ≤ a) && decide (0 ≤ s)))) && (if k = 1 ∨ k = 2 then decide (a < n) && decide (s < m) else if k = 3 ∨ k = 5 then decide (a = 0) && decide (s = 0) else if k = 4 then decide (a < n) && decide (s = 0) else false)) := by
  subst hn hm
  unfold cRight
  simp only [Bool.decide_and]
set_option maxRecDepth 100000 in
set_option maxHeartbeats 8000000 in
theorem rcRight_any (k r a s regs slots : Int) (w : World) : Calls Tryd.prog 15 #[qv k r a s, .int .i64 regs, .int .i64 slots] w fun e w' => e = .returned (.bool (cRight ⟨k, r, a, s⟩ regs slots)) ∧ Below w.heap.size w w' := by
  obtain ⟨n, hn⟩ : ∃ n, min regs 4 = n := ⟨_, rfl⟩
  obtain ⟨m, hm⟩ : ∃ m, min slots 4 = m := ⟨_, rfl⟩
  have in1 : (if (4 : Int) < regs then 4 else regs) = n := by rw [← hn]; split <;> omega
  have im1 : (if (4 : Int) < slots then 4 else slots) = m := by rw [← hm]; split <;> omega
  by_cases c0 : 0 ≤ r
  · by_cases c1 : r < n
    · by_cases c2 : 0 ≤ a
      · by_cases c3 : 0 ≤ s
        · by_cases k1 : k = 1
          · subst k1
            by_cases g1 : a < n
            · by_cases g2 : s < m
              · have EF := hide (show cRight ⟨1, r, a, s⟩ regs slots = true by rw [cRight_is hn hm]; simp [c0, c1, c2, c3, g1, g2])
                have d0 := (show ¬ r < 0 by omega)
                have d1 := (show ¬ n ≤ r by omega)
                have d2 := (show ¬ a < 0 by omega)
                have d3 := (show ¬ s < 0 by omega)
                obtain ⟨w1, e1, hb1, hs1, X⟩ := b4_new w (.int .i64 1) (.int .i64 r) (.int .i64 a) (.int .i64 s) 33
                have HE1 := hide e1
                obtain ⟨X0, X1, X2, X3⟩ := X.all
                clear e1 X
                go_enter Tryd.func15, Tryd.ntmps15
                go_upto_region 1 with (fail)
                rw [HE1.out]
                go_wp2
                go_ret
                exact ⟨ret_bool (by rw [EF.out]), hb1⟩
              · have EF := hide (show cRight ⟨1, r, a, s⟩ regs slots = false by rw [cRight_is hn hm]; simp [c0, c1, c2, c3, g1, g2])
                have d0 := (show ¬ r < 0 by omega)
                have d1 := (show ¬ n ≤ r by omega)
                have d2 := (show ¬ a < 0 by omega)
                have d3 := (show ¬ s < 0 by omega)
                obtain ⟨w1, e1, hb1, hs1, X⟩ := b4_new w (.int .i64 1) (.int .i64 r) (.int .i64 a) (.int .i64 s) 33
                have HE1 := hide e1
                obtain ⟨X0, X1, X2, X3⟩ := X.all
                clear e1 X
                go_enter Tryd.func15, Tryd.ntmps15
                go_upto_region 1 with (fail)
                rw [HE1.out]
                go_wp2
                go_ret
                exact ⟨ret_bool (by rw [EF.out]), hb1⟩
            · have EF := hide (show cRight ⟨1, r, a, s⟩ regs slots = false by rw [cRight_is hn hm]; simp [c0, c1, c2, c3, g1])
              have d0 := (show ¬ r < 0 by omega)
              have d1 := (show ¬ n ≤ r by omega)
              have d2 := (show ¬ a < 0 by omega)
              have d3 := (show ¬ s < 0 by omega)
              obtain ⟨w1, e1, hb1, hs1, X⟩ := b4_new w (.int .i64 1) (.int .i64 r) (.int .i64 a) (.int .i64 s) 33
              have HE1 := hide e1
              obtain ⟨X0, X1, X2, X3⟩ := X.all
              clear e1 X
              go_enter Tryd.func15, Tryd.ntmps15
              go_upto_region 1 with (fail)
              rw [HE1.out]
              go_wp2
              go_ret
              exact ⟨ret_bool (by rw [EF.out]), hb1⟩
          · by_cases k2 : k = 2
            · subst k2
              by_cases g1 : a < n
              · by_cases g2 : s < m
                · have EF := hide (show cRight ⟨2, r, a, s⟩ regs slots = true by rw [cRight_is hn hm]; simp [c0, c1, c2, c3, g1, g2])
                  have d0 := (show ¬ r < 0 by omega)
                  have d1 := (show ¬ n ≤ r by omega)
                  have d2 := (show ¬ a < 0 by omega)
                  have d3 := (show ¬ s < 0 by omega)
                  obtain ⟨w1, e1, hb1, hs1, X⟩ := b4_new w (.int .i64 2) (.int .i64 r) (.int .i64 a) (.int .i64 s) 33
                  have HE1 := hide e1
                  obtain ⟨X0, X1, X2, X3⟩ := X.all
                  clear e1 X
                  go_enter Tryd.func15, Tryd.ntmps15
                  go_upto_region 1 with (fail)
                  rw [HE1.out]
                  go_wp2
                  go_ret
                  exact ⟨ret_bool (by rw [EF.out]), hb1⟩
                · have EF := hide (show cRight ⟨2, r, a, s⟩ regs slots = false by rw [cRight_is hn hm]; simp [c0, c1, c2, c3, g1, g2])
                  have d0 := (show ¬ r < 0 by omega)
                  have d1 := (show ¬ n ≤ r by omega)
                  have d2 := (show ¬ a < 0 by omega)
                  have d3 := (show ¬ s < 0 by omega)
                  obtain ⟨w1, e1, hb1, hs1, X⟩ := b4_new w (.int .i64 2) (.int .i64 r) (.int .i64 a) (.int .i64 s) 33
                  have HE1 := hide e1
                  obtain ⟨X0, X1, X2, X3⟩ := X.all
                  clear e1 X
                  go_enter Tryd.func15, Tryd.ntmps15
                  go_upto_region 1 with (fail)
                  rw [HE1.out]
                  go_wp2
                  go_ret
                  exact ⟨ret_bool (by rw [EF.out]), hb1⟩
              · have EF := hide (show cRight ⟨2, r, a, s⟩ regs slots = false by rw [cRight_is hn hm]; simp [c0, c1, c2, c3, g1])
                have d0 := (show ¬ r < 0 by omega)
                have d1 := (show ¬ n ≤ r by omega)
                have d2 := (show ¬ a < 0 by omega)
                have d3 := (show ¬ s < 0 by omega)
                obtain ⟨w1, e1, hb1, hs1, X⟩ := b4_new w (.int .i64 2) (.int .i64 r) (.int .i64 a) (.int .i64 s) 33
                have HE1 := hide e1
                obtain ⟨X0, X1, X2, X3⟩ := X.all
                clear e1 X
                go_enter Tryd.func15, Tryd.ntmps15
                go_upto_region 1 with (fail)
                rw [HE1.out]
                go_wp2
                go_ret
                exact ⟨ret_bool (by rw [EF.out]), hb1⟩
            · by_cases k3 : k = 3
              · subst k3
                by_cases g1 : a = 0
                · by_cases g2 : s = 0
                  · have EF := hide (show cRight ⟨3, r, a, s⟩ regs slots = true by rw [cRight_is hn hm]; simp [c0, c1, g1, g2])
                    have d0 := (show ¬ r < 0 by omega)
                    have d1 := (show ¬ n ≤ r by omega)
                    have d2 := (show ¬ a < 0 by omega)
                    have d3 := (show ¬ s < 0 by omega)
                    have qg1 : (a == 0) = true := by simp [g1]
                    clear g1
                    have qg2 : (s == 0) = true := by simp [g2]
                    clear g2
                    obtain ⟨w1, e1, hb1, hs1, X⟩ := b4_new w (.int .i64 3) (.int .i64 r) (.int .i64 a) (.int .i64 s) 33
                    have HE1 := hide e1
                    obtain ⟨X0, X1, X2, X3⟩ := X.all
                    clear e1 X
                    go_enter Tryd.func15, Tryd.ntmps15
                    go_upto_region 1 with (fail)
                    rw [HE1.out]
                    go_wp2
                    go_ret
                    exact ⟨ret_bool (by rw [EF.out]), hb1⟩
                  · have EF := hide (show cRight ⟨3, r, a, s⟩ regs slots = false by rw [cRight_is hn hm]; simp [c0, c1, c3, g1, g2])
                    have d0 := (show ¬ r < 0 by omega)
                    have d1 := (show ¬ n ≤ r by omega)
                    have d2 := (show ¬ a < 0 by omega)
                    have d3 := (show ¬ s < 0 by omega)
                    have qg1 : (a == 0) = true := by simp [g1]
                    clear g1
                    have qg2 : (s == 0) = false := by simp [g2]
                    clear g2
                    obtain ⟨w1, e1, hb1, hs1, X⟩ := b4_new w (.int .i64 3) (.int .i64 r) (.int .i64 a) (.int .i64 s) 33
                    have HE1 := hide e1
                    obtain ⟨X0, X1, X2, X3⟩ := X.all
                    clear e1 X
                    go_enter Tryd.func15, Tryd.ntmps15
                    go_upto_region 1 with (fail)
                    rw [HE1.out]
                    go_wp2
                    go_ret
                    exact ⟨ret_bool (by rw [EF.out]), hb1⟩
                · have EF := hide (show cRight ⟨3, r, a, s⟩ regs slots = false by rw [cRight_is hn hm]; simp [c0, c1, c2, c3, g1])
                  have d0 := (show ¬ r < 0 by omega)
                  have d1 := (show ¬ n ≤ r by omega)
                  have d2 := (show ¬ a < 0 by omega)
                  have d3 := (show ¬ s < 0 by omega)
                  have qg1 : (a == 0) = false := by simp [g1]
                  clear g1
                  obtain ⟨w1, e1, hb1, hs1, X⟩ := b4_new w (.int .i64 3) (.int .i64 r) (.int .i64 a) (.int .i64 s) 33
                  have HE1 := hide e1
                  obtain ⟨X0, X1, X2, X3⟩ := X.all
                  clear e1 X
                  go_enter Tryd.func15, Tryd.ntmps15
                  go_upto_region 1 with (fail)
                  rw [HE1.out]
                  go_wp2
                  go_ret
                  exact ⟨ret_bool (by rw [EF.out]), hb1⟩
              · by_cases k5 : k = 5
                · subst k5
                  by_cases g1 : a = 0
                  · by_cases g2 : s = 0
                    · have EF := hide (show cRight ⟨5, r, a, s⟩ regs slots = true by rw [cRight_is hn hm]; simp [c0, c1, g1, g2])
                      have d0 := (show ¬ r < 0 by omega)
                      have d1 := (show ¬ n ≤ r by omega)
                      have d2 := (show ¬ a < 0 by omega)
                      have d3 := (show ¬ s < 0 by omega)
                      have qg1 : (a == 0) = true := by simp [g1]
                      clear g1
                      have qg2 : (s == 0) = true := by simp [g2]
                      clear g2
                      obtain ⟨w1, e1, hb1, hs1, X⟩ := b4_new w (.int .i64 5) (.int .i64 r) (.int .i64 a) (.int .i64 s) 33
                      have HE1 := hide e1
                      obtain ⟨X0, X1, X2, X3⟩ := X.all
                      clear e1 X
                      go_enter Tryd.func15, Tryd.ntmps15
                      go_upto_region 1 with (fail)
                      rw [HE1.out]
                      go_wp2
                      go_ret
                      exact ⟨ret_bool (by rw [EF.out]), hb1⟩
                    · have EF := hide (show cRight ⟨5, r, a, s⟩ regs slots = false by rw [cRight_is hn hm]; simp [c0, c1, c3, g1, g2])
                      have d0 := (show ¬ r < 0 by omega)
                      have d1 := (show ¬ n ≤ r by omega)
                      have d2 := (show ¬ a < 0 by omega)
                      have d3 := (show ¬ s < 0 by omega)
                      have qg1 : (a == 0) = true := by simp [g1]
                      clear g1
                      have qg2 : (s == 0) = false := by simp [g2]
                      clear g2
                      obtain ⟨w1, e1, hb1, hs1, X⟩ := b4_new w (.int .i64 5) (.int .i64 r) (.int .i64 a) (.int .i64 s) 33
                      have HE1 := hide e1
                      obtain ⟨X0, X1, X2, X3⟩ := X.all
                      clear e1 X
                      go_enter Tryd.func15, Tryd.ntmps15
                      go_upto_region 1 with (fail)
                      rw [HE1.out]
                      go_wp2
                      go_ret
                      exact ⟨ret_bool (by rw [EF.out]), hb1⟩
                  · have EF := hide (show cRight ⟨5, r, a, s⟩ regs slots = false by rw [cRight_is hn hm]; simp [c0, c1, c2, c3, g1])
                    have d0 := (show ¬ r < 0 by omega)
                    have d1 := (show ¬ n ≤ r by omega)
                    have d2 := (show ¬ a < 0 by omega)
                    have d3 := (show ¬ s < 0 by omega)
                    have qg1 : (a == 0) = false := by simp [g1]
                    clear g1
                    obtain ⟨w1, e1, hb1, hs1, X⟩ := b4_new w (.int .i64 5) (.int .i64 r) (.int .i64 a) (.int .i64 s) 33
                    have HE1 := hide e1
                    obtain ⟨X0, X1, X2, X3⟩ := X.all
                    clear e1 X
                    go_enter Tryd.func15, Tryd.ntmps15
                    go_upto_region 1 with (fail)
                    rw [HE1.out]
                    go_wp2
                    go_ret
                    exact ⟨ret_bool (by rw [EF.out]), hb1⟩
                · by_cases k4 : k = 4
                  · subst k4
                    by_cases g1 : a < n
                    · by_cases g2 : s = 0
                      · have EF := hide (show cRight ⟨4, r, a, s⟩ regs slots = true by rw [cRight_is hn hm]; simp [c0, c1, c2, g1, g2])
                        have d0 := (show ¬ r < 0 by omega)
                        have d1 := (show ¬ n ≤ r by omega)
                        have d2 := (show ¬ a < 0 by omega)
                        have d3 := (show ¬ s < 0 by omega)
                        have qg2 : (s == 0) = true := by simp [g2]
                        clear g2
                        obtain ⟨w1, e1, hb1, hs1, X⟩ := b4_new w (.int .i64 4) (.int .i64 r) (.int .i64 a) (.int .i64 s) 33
                        have HE1 := hide e1
                        obtain ⟨X0, X1, X2, X3⟩ := X.all
                        clear e1 X
                        go_enter Tryd.func15, Tryd.ntmps15
                        go_upto_region 1 with (fail)
                        rw [HE1.out]
                        go_wp2
                        go_ret
                        exact ⟨ret_bool (by rw [EF.out]), hb1⟩
                      · have EF := hide (show cRight ⟨4, r, a, s⟩ regs slots = false by rw [cRight_is hn hm]; simp [c0, c1, c2, c3, g1, g2])
                        have d0 := (show ¬ r < 0 by omega)
                        have d1 := (show ¬ n ≤ r by omega)
                        have d2 := (show ¬ a < 0 by omega)
                        have d3 := (show ¬ s < 0 by omega)
                        have qg2 : (s == 0) = false := by simp [g2]
                        clear g2
                        obtain ⟨w1, e1, hb1, hs1, X⟩ := b4_new w (.int .i64 4) (.int .i64 r) (.int .i64 a) (.int .i64 s) 33
                        have HE1 := hide e1
                        obtain ⟨X0, X1, X2, X3⟩ := X.all
                        clear e1 X
                        go_enter Tryd.func15, Tryd.ntmps15
                        go_upto_region 1 with (fail)
                        rw [HE1.out]
                        go_wp2
                        go_ret
                        exact ⟨ret_bool (by rw [EF.out]), hb1⟩
                    · have EF := hide (show cRight ⟨4, r, a, s⟩ regs slots = false by rw [cRight_is hn hm]; simp [c0, c1, c2, c3, g1])
                      have d0 := (show ¬ r < 0 by omega)
                      have d1 := (show ¬ n ≤ r by omega)
                      have d2 := (show ¬ a < 0 by omega)
                      have d3 := (show ¬ s < 0 by omega)
                      obtain ⟨w1, e1, hb1, hs1, X⟩ := b4_new w (.int .i64 4) (.int .i64 r) (.int .i64 a) (.int .i64 s) 33
                      have HE1 := hide e1
                      obtain ⟨X0, X1, X2, X3⟩ := X.all
                      clear e1 X
                      go_enter Tryd.func15, Tryd.ntmps15
                      go_upto_region 1 with (fail)
                      rw [HE1.out]
                      go_wp2
                      go_ret
                      exact ⟨ret_bool (by rw [EF.out]), hb1⟩
                  · have EF := hide (show cRight ⟨k, r, a, s⟩ regs slots = false by rw [cRight_is hn hm]; simp [c0, c1, c2, c3, k1, k2, k3, k4, k5])
                    have d0 := (show ¬ r < 0 by omega)
                    have d1 := (show ¬ n ≤ r by omega)
                    have d2 := (show ¬ a < 0 by omega)
                    have d3 := (show ¬ s < 0 by omega)
                    obtain ⟨w1, e1, hb1, hs1, X⟩ := b4_new w (.int .i64 k) (.int .i64 r) (.int .i64 a) (.int .i64 s) 33
                    have HE1 := hide e1
                    obtain ⟨X0, X1, X2, X3⟩ := X.all
                    clear e1 X
                    go_enter Tryd.func15, Tryd.ntmps15
                    go_upto_region 1 with (fail)
                    rw [HE1.out]
                    go_wp2
                    go_ret
                    exact ⟨ret_bool (by rw [EF.out]), hb1⟩
        · have EF := hide (show cRight ⟨k, r, a, s⟩ regs slots = false by rw [cRight_is hn hm]; simp [c0, c1, c2, c3])
          have d0 := (show ¬ r < 0 by omega)
          have d1 := (show ¬ n ≤ r by omega)
          have d2 := (show ¬ a < 0 by omega)
          have d3 := (show s < 0 by omega)
          obtain ⟨w1, e1, hb1, hs1, X⟩ := b4_new w (.int .i64 k) (.int .i64 r) (.int .i64 a) (.int .i64 s) 33
          have HE1 := hide e1
          obtain ⟨X0, X1, X2, X3⟩ := X.all
          clear e1 X
          go_enter Tryd.func15, Tryd.ntmps15
          go_upto_region 1 with (fail)
          rw [HE1.out]
          go_wp2
          go_ret
          exact ⟨ret_bool (by rw [EF.out]), hb1⟩
      · have EF := hide (show cRight ⟨k, r, a, s⟩ regs slots = false by rw [cRight_is hn hm]; simp [c0, c1, c2])
        have d0 := (show ¬ r < 0 by omega)
        have d1 := (show ¬ n ≤ r by omega)
        have d2 := (show a < 0 by omega)
        obtain ⟨w1, e1, hb1, hs1, X⟩ := b4_new w (.int .i64 k) (.int .i64 r) (.int .i64 a) (.int .i64 s) 33
        have HE1 := hide e1
        obtain ⟨X0, X1, X2, X3⟩ := X.all
        clear e1 X
        go_enter Tryd.func15, Tryd.ntmps15
        go_upto_region 1 with (fail)
        rw [HE1.out]
        go_wp2
        go_ret
        exact ⟨ret_bool (by rw [EF.out]), hb1⟩
    · have EF := hide (show cRight ⟨k, r, a, s⟩ regs slots = false by rw [cRight_is hn hm]; simp [c0, c1])
      have d0 := (show ¬ r < 0 by omega)
      have d1 := (show n ≤ r by omega)
      obtain ⟨w1, e1, hb1, hs1, X⟩ := b4_new w (.int .i64 k) (.int .i64 r) (.int .i64 a) (.int .i64 s) 33
      have HE1 := hide e1
      obtain ⟨X0, X1, X2, X3⟩ := X.all
      clear e1 X
      go_enter Tryd.func15, Tryd.ntmps15
      go_upto_region 1 with (fail)
      rw [HE1.out]
      go_wp2
      go_ret
      exact ⟨ret_bool (by rw [EF.out]), hb1⟩
  · have EF := hide (show cRight ⟨k, r, a, s⟩ regs slots = false by rw [cRight_is hn hm]; simp [c0])
    have d0 := (show r < 0 by omega)
    obtain ⟨w1, e1, hb1, hs1, X⟩ := b4_new w (.int .i64 k) (.int .i64 r) (.int .i64 a) (.int .i64 s) 33
    have HE1 := hide e1
    obtain ⟨X0, X1, X2, X3⟩ := X.all
    clear e1 X
    go_enter Tryd.func15, Tryd.ntmps15
    go_upto_region 1 with (fail)
    rw [HE1.out]
    go_wp2
    go_ret
    exact ⟨ret_bool (by rw [EF.out]), hb1⟩
theorem cconv1 (w : World) (x : Int) (h0 : 0 ≤ x) (h1 : x ≤ 255) :
    (convert 46 9 (.slice (some ⟨w.heap.size, 0, none⟩) 1 1)).run Tryd.prog (w.alloc (.cells #[.int .u8 x] 5)) = .ok (.string ⟨[x.toNat.toUInt8].toArray⟩) (w.alloc (.cells #[.int .u8 x] 5)) := by
  refine run_convert_bytes_back (w.alloc (.cells #[.int .u8 x] 5)) 46 9 5 ⟨w.heap.size, 0, none⟩ 1 [x.toNat.toUInt8] Tryd.underlying46 Tryd.underlying5 Tryd.underlying9 fun j hj => ?_
  obtain rfl : j = 0 := by simpa using hj
  rw [row_new w [.int .u8 x] 5 0 _ rfl]
  simp; omega
theorem cret {s : ByteArray} {l : List UInt8} (h : s = ⟨l.toArray⟩) : Ending.returned (.string s) = .returned (.string ⟨l.toArray⟩) := by rw [h]
theorem cwrap {x : Int} (h0 : 0 ≤ x) (h1 : x ≤ 255) : IntKind.u8.wrap x = x := by simp [IntKind.wrap, IntKind.bits, IntKind.signed]; omega
theorem clet {r : Int} (h : 0 ≤ r) : UInt8.ofNat (65 + r).toNat = cLet r := by unfold cLet; rw [show (65 + r).toNat = 65 + r.toNat by omega]
theorem cdig {s : Int} (h : 0 ≤ s) : UInt8.ofNat (48 + s).toNat = cDig s := by unfold cDig; rw [show (48 + s).toNat = 48 + s.toNat by omega]
theorem letter_any (r : Int) (hr : 0 ≤ r ∧ r < 4) (w : World) : Calls Tryd.prog 32 #[.int .i64 r] w fun e w' => e = .returned (.string ⟨#[cLet r]⟩) ∧ Below w.heap.size w w' := by
  obtain ⟨h0, h1⟩ := hr
  have e1 := cwrap (x := 65 + r) (by omega) (by omega)
  have hc := cconv1 w (65 + r) (by omega) (by omega)
  have HL := hide (clet h0)
  go_enter Tryd.func32, Tryd.ntmps32
  go_wp2
  go_ret
  exact ⟨cret (l := [cLet r]) (by rw [← HL.out]), cbal _ _⟩
theorem cText_no {k r a s : Int} (h : cRight ⟨k, r, a, s⟩ 4 4 = false) : cText ⟨k, r, a, s⟩ = [63] := by unfold cText; rw [h]; rfl
theorem cRight_rng {k r a s : Int} (h : cRight ⟨k, r, a, s⟩ 4 4 = true) : (0 ≤ r ∧ r < 4) ∧ (0 ≤ a ∧ a < 4) ∧ (0 ≤ s ∧ s < 4) ∧ (k = 1 ∨ k = 2 ∨ k = 3 ∨ k = 4 ∨ k = 5) := by
  rw [cRight_is (n := 4) (m := 4) rfl rfl] at h
  simp only [Bool.and_eq_true, decide_eq_true_eq] at h
  obtain ⟨⟨h0, h1, h2, h3⟩, h4⟩ := h
  by_cases k1 : k = 1 ∨ k = 2
  · rw [if_pos k1] at h4; simp only [Bool.and_eq_true, decide_eq_true_eq] at h4; omega
  · rw [if_neg k1] at h4
    by_cases k3 : k = 3 ∨ k = 5
    · rw [if_pos k3] at h4; simp only [Bool.and_eq_true, decide_eq_true_eq] at h4; omega
    · rw [if_neg k3] at h4
      by_cases k4 : k = 4
      · rw [if_pos k4] at h4; simp only [Bool.and_eq_true, decide_eq_true_eq] at h4; omega
      · rw [if_neg k4] at h4; cases h4
set_option maxRecDepth 100000 in
set_option maxHeartbeats 1000000 in
theorem rcText_no (k r a s : Int) (h : cRight ⟨k, r, a, s⟩ 4 4 = false) (w : World) : Calls Tryd.prog 21 #[qv k r a s] w fun e w' => e = .returned (.string ⟨(cText ⟨k, r, a, s⟩).toArray⟩) ∧ Below w.heap.size w w' := by
  have H := hide h
  have EF := hide (cText_no h)
  clear h
  obtain ⟨w1, e1, hb1, hs1, X⟩ := b4_new w (.int .i64 k) (.int .i64 r) (.int .i64 a) (.int .i64 s) 33
  have HE1 := hide e1
  have HX := hide X
  obtain ⟨X0, X1, X2, X3⟩ := X.all
  clear e1 X
  go_enter Tryd.func21, Tryd.ntmps21
  go_upto_region 1 with (fail)
  rw [HE1.out]
  go_wp2_with fail
  (with_reducible refine (rcRight_any k r a s 4 4 _).mono ?_)
  rintro e w2 ⟨rfl, hb2⟩
  rw [H.out]
  have HX2 := hide (HX.out.below hb2)
  have hB := bcall hb1 hb2
  clear X0 X1 X2 X3
  obtain ⟨X0, X1, X2, X3⟩ := HX2.out.all
  go_wp2
  go_ret
  exact ⟨cret (by rw [EF.out]), hB⟩
theorem cconv_at {w w2 : World} {x : Int} (h0 : 0 ≤ x) (h1 : x ≤ 255) (hb : Below (w.alloc (.cells #[.int .u8 x] 5)).heap.size (w.alloc (.cells #[.int .u8 x] 5)) w2) :
    (convert 46 9 (.slice (some ⟨w.heap.size, 0, none⟩) 1 1)).run Tryd.prog w2 = .ok (.string ⟨[x.toNat.toUInt8].toArray⟩) w2 := by
  refine run_convert_bytes_back w2 46 9 5 ⟨w.heap.size, 0, none⟩ 1 [x.toNat.toUInt8] Tryd.underlying46 Tryd.underlying5 Tryd.underlying9 fun j hj => ?_
  obtain rfl : j = 0 := by simpa using hj
  rw [add_none, hb.cell (by simp), ← add_none, row_new w [.int .u8 x] 5 0 _ rfl]
  simp; omega
set_option maxRecDepth 100000 in
set_option maxHeartbeats 4000000 in
theorem rcText_1 (r a s : Int) (h : cRight ⟨1, r, a, s⟩ 4 4 = true) (w : World) : Calls Tryd.prog 21 #[qv 1 r a s] w fun e w' => e = .returned (.string ⟨(cText ⟨1, r, a, s⟩).toArray⟩) ∧ Below w.heap.size w w' := by
  have H := hide h
  obtain ⟨⟨r0, r1⟩, ⟨a0, a1⟩, ⟨s0, s1⟩, -⟩ := cRight_rng h
  have e1 := cwrap (x := 48 + s) (by omega) (by omega)
  have iw : IntKind.i64.wrap (48 + s) = 48 + s := by simp [IntKind.wrap, IntKind.bits, IntKind.signed]; omega
  have hc := fun w : World => cconv1 w (48 + s) (by omega) (by omega)
  have hcd := fun w : World => cconv_at (w := w) (x := 48 + s) (by omega) (by omega) ((Below.refl _ _).drew)
  have HD := hide (cdig s0)
  have HR := hide (show 0 ≤ r ∧ r < 4 from ⟨r0, r1⟩)
  have HA := hide (show 0 ≤ a ∧ a < 4 from ⟨a0, a1⟩)
  have HS := hide (show 0 ≤ 48 + s ∧ 48 + s ≤ 255 by omega)
  have EF := hide (show cText ⟨1, r, a, s⟩ = [cLet r, 61, cLet a, 46, cDig s] by unfold cText; rw [h]; rfl)
  clear h r0 r1 a0 a1 s0 s1
  obtain ⟨w1, e1, hb1, hs1, X⟩ := b4_new w (.int .i64 1) (.int .i64 r) (.int .i64 a) (.int .i64 s) 33
  have HE1 := hide e1
  have HX := hide X
  obtain ⟨X0, X1, X2, X3⟩ := X.all
  clear e1 X
  go_enter Tryd.func21, Tryd.ntmps21
  go_upto_region 1 with (fail)
  rw [HE1.out]
  go_wp2_with fail
  (with_reducible refine (rcRight_any 1 r a s 4 4 _).mono ?_)
  rintro e w2 ⟨rfl, hb2⟩
  rw [H.out]
  have HX2 := hide (HX.out.below hb2)
  have hB := bcall hb1 hb2
  clear X0 X1 X2 X3
  obtain ⟨X0, X1, X2, X3⟩ := HX2.out.all
  have Xa0 := fun ob => ckeep (cbal w2 ob) X0
  have Xa1 := fun ob => ckeep (cbal w2 ob) X1
  have Xa2 := fun ob => ckeep (cbal w2 ob) X2
  have Xa3 := fun ob => ckeep (cbal w2 ob) X3
  go_upto_region 3 with (fail)
  go_region_law (first | (go_simp; go_at_call 32; (with_reducible refine (letter_any a HA.out _).mono ?_); rintro e w3 ⟨rfl, hb3⟩; have hb4 : Below w2.heap.size w2 w3 := (by first | exact ⟨hb3.os, hb3.tape, hb3.output, hb3.size, hb3.block⟩ | exact bcall (cbal w2 _) ⟨hb3.os, hb3.tape, hb3.output, hb3.size, hb3.block⟩); (first | (have hc3 := cconv_at (w := w2) HS.out.1 HS.out.2 ⟨hb3.os, hb3.tape, hb3.output, hb3.size, hb3.block⟩) | skip); have X0 := ckeep hb4 X0; have X1 := ckeep hb4 X1; have X2 := ckeep hb4 X2; have X3 := ckeep hb4 X3; have Xb0 := (fun ob => ckeep (cbal w3 ob) X0); have Xb1 := (fun ob => ckeep (cbal w3 ob) X1); have Xb2 := (fun ob => ckeep (cbal w3 ob) X2); have Xb3 := (fun ob => ckeep (cbal w3 ob) X3); have hB := bcall hB hb4; clear hb3))
  all_goals
    go_wp2_with fail
    (with_reducible refine (letter_any r HR.out _).mono ?_)
    rintro e w5 ⟨rfl, hb5⟩
    go_wp2
    go_ret
    refine ⟨cret ?_, ?_⟩
    · rw [EF.out, ← HD.out]
      apply ByteArray.ext
      simp [ByteArray.data_append]
    · first
      | exact bcall hB ⟨hb5.os, hb5.tape, hb5.output, hb5.size, hb5.block⟩
      | exact bcall (bcall hB (cbal w3 _)) ⟨hb5.os, hb5.tape, hb5.output, hb5.size, hb5.block⟩
set_option maxRecDepth 100000 in
set_option maxHeartbeats 4000000 in
theorem rcText_2 (r a s : Int) (h : cRight ⟨2, r, a, s⟩ 4 4 = true) (w : World) : Calls Tryd.prog 21 #[qv 2 r a s] w fun e w' => e = .returned (.string ⟨(cText ⟨2, r, a, s⟩).toArray⟩) ∧ Below w.heap.size w w' := by
  have H := hide h
  obtain ⟨⟨r0, r1⟩, ⟨a0, a1⟩, ⟨s0, s1⟩, -⟩ := cRight_rng h
  have e1 := cwrap (x := 48 + s) (by omega) (by omega)
  have iw : IntKind.i64.wrap (48 + s) = 48 + s := by simp [IntKind.wrap, IntKind.bits, IntKind.signed]; omega
  have hc := fun w : World => cconv1 w (48 + s) (by omega) (by omega)
  have hcd := fun w : World => cconv_at (w := w) (x := 48 + s) (by omega) (by omega) ((Below.refl _ _).drew)
  have HD := hide (cdig s0)
  have HR := hide (show 0 ≤ r ∧ r < 4 from ⟨r0, r1⟩)
  have HA := hide (show 0 ≤ a ∧ a < 4 from ⟨a0, a1⟩)
  have HS := hide (show 0 ≤ 48 + s ∧ 48 + s ≤ 255 by omega)
  have EF := hide (show cText ⟨2, r, a, s⟩ = [cLet a, 46, cDig s, 61, cLet r] by unfold cText; rw [h]; rfl)
  clear h r0 r1 a0 a1 s0 s1
  obtain ⟨w1, e1, hb1, hs1, X⟩ := b4_new w (.int .i64 2) (.int .i64 r) (.int .i64 a) (.int .i64 s) 33
  have HE1 := hide e1
  have HX := hide X
  obtain ⟨X0, X1, X2, X3⟩ := X.all
  clear e1 X
  go_enter Tryd.func21, Tryd.ntmps21
  go_upto_region 1 with (fail)
  rw [HE1.out]
  go_wp2_with fail
  (with_reducible refine (rcRight_any 2 r a s 4 4 _).mono ?_)
  rintro e w2 ⟨rfl, hb2⟩
  rw [H.out]
  have HX2 := hide (HX.out.below hb2)
  have hB := bcall hb1 hb2
  clear X0 X1 X2 X3
  obtain ⟨X0, X1, X2, X3⟩ := HX2.out.all
  have Xa0 := fun ob => ckeep (cbal w2 ob) X0
  have Xa1 := fun ob => ckeep (cbal w2 ob) X1
  have Xa2 := fun ob => ckeep (cbal w2 ob) X2
  have Xa3 := fun ob => ckeep (cbal w2 ob) X3
  go_upto_region 3 with (fail)
  go_region_law (first | (go_simp; go_at_call 32; (with_reducible refine (letter_any a HA.out _).mono ?_); rintro e w3 ⟨rfl, hb3⟩; have hb4 : Below w2.heap.size w2 w3 := (by first | exact ⟨hb3.os, hb3.tape, hb3.output, hb3.size, hb3.block⟩ | exact bcall (cbal w2 _) ⟨hb3.os, hb3.tape, hb3.output, hb3.size, hb3.block⟩); (first | (have hc3 := cconv_at (w := w2) HS.out.1 HS.out.2 ⟨hb3.os, hb3.tape, hb3.output, hb3.size, hb3.block⟩) | skip); have X0 := ckeep hb4 X0; have X1 := ckeep hb4 X1; have X2 := ckeep hb4 X2; have X3 := ckeep hb4 X3; have Xb0 := (fun ob => ckeep (cbal w3 ob) X0); have Xb1 := (fun ob => ckeep (cbal w3 ob) X1); have Xb2 := (fun ob => ckeep (cbal w3 ob) X2); have Xb3 := (fun ob => ckeep (cbal w3 ob) X3); have hB := bcall hB hb4; clear hb3))
  all_goals
    go_wp2_with fail
    (with_reducible refine (letter_any r HR.out _).mono ?_)
    rintro e w5 ⟨rfl, hb5⟩
    go_wp2
    go_ret
    refine ⟨cret ?_, ?_⟩
    · rw [EF.out, ← HD.out]
      apply ByteArray.ext
      simp [ByteArray.data_append]
    · first
      | exact bcall hB ⟨hb5.os, hb5.tape, hb5.output, hb5.size, hb5.block⟩
      | exact bcall (bcall hB (cbal w3 _)) ⟨hb5.os, hb5.tape, hb5.output, hb5.size, hb5.block⟩
set_option maxRecDepth 100000 in
set_option maxHeartbeats 4000000 in
theorem rcText_3 (r a s : Int) (h : cRight ⟨3, r, a, s⟩ 4 4 = true) (w : World) : Calls Tryd.prog 21 #[qv 3 r a s] w fun e w' => e = .returned (.string ⟨(cText ⟨3, r, a, s⟩).toArray⟩) ∧ Below w.heap.size w w' := by
  have H := hide h
  obtain ⟨⟨r0, r1⟩, ⟨a0, a1⟩, ⟨s0, s1⟩, -⟩ := cRight_rng h
  have e1 := cwrap (x := 48 + s) (by omega) (by omega)
  have iw : IntKind.i64.wrap (48 + s) = 48 + s := by simp [IntKind.wrap, IntKind.bits, IntKind.signed]; omega
  have hc := fun w : World => cconv1 w (48 + s) (by omega) (by omega)
  have hcd := fun w : World => cconv_at (w := w) (x := 48 + s) (by omega) (by omega) ((Below.refl _ _).drew)
  have HD := hide (cdig s0)
  have HR := hide (show 0 ≤ r ∧ r < 4 from ⟨r0, r1⟩)
  have HA := hide (show 0 ≤ a ∧ a < 4 from ⟨a0, a1⟩)
  have HS := hide (show 0 ≤ 48 + s ∧ 48 + s ≤ 255 by omega)
  have EF := hide (show cText ⟨3, r, a, s⟩ = [cLet r, 61, 110, 101, 119] by unfold cText; rw [h]; rfl)
  clear h r0 r1 a0 a1 s0 s1
  obtain ⟨w1, e1, hb1, hs1, X⟩ := b4_new w (.int .i64 3) (.int .i64 r) (.int .i64 a) (.int .i64 s) 33
  have HE1 := hide e1
  have HX := hide X
  obtain ⟨X0, X1, X2, X3⟩ := X.all
  clear e1 X
  go_enter Tryd.func21, Tryd.ntmps21
  go_upto_region 1 with (fail)
  rw [HE1.out]
  go_wp2_with fail
  (with_reducible refine (rcRight_any 3 r a s 4 4 _).mono ?_)
  rintro e w2 ⟨rfl, hb2⟩
  rw [H.out]
  have HX2 := hide (HX.out.below hb2)
  have hB := bcall hb1 hb2
  clear X0 X1 X2 X3
  obtain ⟨X0, X1, X2, X3⟩ := HX2.out.all
  have Xa0 := fun ob => ckeep (cbal w2 ob) X0
  have Xa1 := fun ob => ckeep (cbal w2 ob) X1
  have Xa2 := fun ob => ckeep (cbal w2 ob) X2
  have Xa3 := fun ob => ckeep (cbal w2 ob) X3
  go_upto_region 3 with (fail)
  go_region_law (first | (go_simp; go_at_call 32; (with_reducible refine (letter_any a HA.out _).mono ?_); rintro e w3 ⟨rfl, hb3⟩; have hb4 : Below w2.heap.size w2 w3 := (by first | exact ⟨hb3.os, hb3.tape, hb3.output, hb3.size, hb3.block⟩ | exact bcall (cbal w2 _) ⟨hb3.os, hb3.tape, hb3.output, hb3.size, hb3.block⟩); (first | (have hc3 := cconv_at (w := w2) HS.out.1 HS.out.2 ⟨hb3.os, hb3.tape, hb3.output, hb3.size, hb3.block⟩) | skip); have X0 := ckeep hb4 X0; have X1 := ckeep hb4 X1; have X2 := ckeep hb4 X2; have X3 := ckeep hb4 X3; have Xb0 := (fun ob => ckeep (cbal w3 ob) X0); have Xb1 := (fun ob => ckeep (cbal w3 ob) X1); have Xb2 := (fun ob => ckeep (cbal w3 ob) X2); have Xb3 := (fun ob => ckeep (cbal w3 ob) X3); have hB := bcall hB hb4; clear hb3))
  all_goals
    go_wp2_with fail
    (with_reducible refine (letter_any r HR.out _).mono ?_)
    rintro e w5 ⟨rfl, hb5⟩
    go_wp2
    go_ret
    refine ⟨cret ?_, ?_⟩
    · rw [EF.out]
      apply ByteArray.ext
      simp [ByteArray.data_append]
    · first
      | exact bcall hB ⟨hb5.os, hb5.tape, hb5.output, hb5.size, hb5.block⟩
      | exact bcall (bcall hB (cbal w3 _)) ⟨hb5.os, hb5.tape, hb5.output, hb5.size, hb5.block⟩
set_option maxRecDepth 100000 in
set_option maxHeartbeats 4000000 in
theorem rcText_5 (r a s : Int) (h : cRight ⟨5, r, a, s⟩ 4 4 = true) (w : World) : Calls Tryd.prog 21 #[qv 5 r a s] w fun e w' => e = .returned (.string ⟨(cText ⟨5, r, a, s⟩).toArray⟩) ∧ Below w.heap.size w w' := by
  have H := hide h
  obtain ⟨⟨r0, r1⟩, ⟨a0, a1⟩, ⟨s0, s1⟩, -⟩ := cRight_rng h
  have e1 := cwrap (x := 48 + s) (by omega) (by omega)
  have iw : IntKind.i64.wrap (48 + s) = 48 + s := by simp [IntKind.wrap, IntKind.bits, IntKind.signed]; omega
  have hc := fun w : World => cconv1 w (48 + s) (by omega) (by omega)
  have hcd := fun w : World => cconv_at (w := w) (x := 48 + s) (by omega) (by omega) ((Below.refl _ _).drew)
  have HD := hide (cdig s0)
  have HR := hide (show 0 ≤ r ∧ r < 4 from ⟨r0, r1⟩)
  have HA := hide (show 0 ≤ a ∧ a < 4 from ⟨a0, a1⟩)
  have HS := hide (show 0 ≤ 48 + s ∧ 48 + s ≤ 255 by omega)
  have EF := hide (show cText ⟨5, r, a, s⟩ = [cLet r, 61, 48] by unfold cText; rw [h]; rfl)
  clear h r0 r1 a0 a1 s0 s1
  obtain ⟨w1, e1, hb1, hs1, X⟩ := b4_new w (.int .i64 5) (.int .i64 r) (.int .i64 a) (.int .i64 s) 33
  have HE1 := hide e1
  have HX := hide X
  obtain ⟨X0, X1, X2, X3⟩ := X.all
  clear e1 X
  go_enter Tryd.func21, Tryd.ntmps21
  go_upto_region 1 with (fail)
  rw [HE1.out]
  go_wp2_with fail
  (with_reducible refine (rcRight_any 5 r a s 4 4 _).mono ?_)
  rintro e w2 ⟨rfl, hb2⟩
  rw [H.out]
  have HX2 := hide (HX.out.below hb2)
  have hB := bcall hb1 hb2
  clear X0 X1 X2 X3
  obtain ⟨X0, X1, X2, X3⟩ := HX2.out.all
  have Xa0 := fun ob => ckeep (cbal w2 ob) X0
  have Xa1 := fun ob => ckeep (cbal w2 ob) X1
  have Xa2 := fun ob => ckeep (cbal w2 ob) X2
  have Xa3 := fun ob => ckeep (cbal w2 ob) X3
  go_upto_region 3 with (fail)
  go_region_law (first | (go_simp; go_at_call 32; (with_reducible refine (letter_any a HA.out _).mono ?_); rintro e w3 ⟨rfl, hb3⟩; have hb4 : Below w2.heap.size w2 w3 := (by first | exact ⟨hb3.os, hb3.tape, hb3.output, hb3.size, hb3.block⟩ | exact bcall (cbal w2 _) ⟨hb3.os, hb3.tape, hb3.output, hb3.size, hb3.block⟩); (first | (have hc3 := cconv_at (w := w2) HS.out.1 HS.out.2 ⟨hb3.os, hb3.tape, hb3.output, hb3.size, hb3.block⟩) | skip); have X0 := ckeep hb4 X0; have X1 := ckeep hb4 X1; have X2 := ckeep hb4 X2; have X3 := ckeep hb4 X3; have Xb0 := (fun ob => ckeep (cbal w3 ob) X0); have Xb1 := (fun ob => ckeep (cbal w3 ob) X1); have Xb2 := (fun ob => ckeep (cbal w3 ob) X2); have Xb3 := (fun ob => ckeep (cbal w3 ob) X3); have hB := bcall hB hb4; clear hb3))
  all_goals
    go_wp2_with fail
    (with_reducible refine (letter_any r HR.out _).mono ?_)
    rintro e w5 ⟨rfl, hb5⟩
    go_wp2
    go_ret
    refine ⟨cret ?_, ?_⟩
    · rw [EF.out]
      apply ByteArray.ext
      simp [ByteArray.data_append]
    · first
      | exact bcall hB ⟨hb5.os, hb5.tape, hb5.output, hb5.size, hb5.block⟩
      | exact bcall (bcall hB (cbal w3 _)) ⟨hb5.os, hb5.tape, hb5.output, hb5.size, hb5.block⟩
end Go.Proofs.YtffdgkofolomlaaDoor
