import Derived.Deep.Cut
import Derived.BigQuiet
import Derived.Laws.IdiomStrings
import Derived.Deep.RegionLaw
import Derived.Test.YtjbaiibbgplljaaGreatDoorPab
import Derived.Test.YtjbaiibbgplljaaGreatDoorPaa
import Derived.Test.YtjbaiibbgplljaaGreatDoorPab
set_option maxRecDepth 100000
set_option maxHeartbeats 40000000
namespace Go.Proofs.YtjbaiibbgplljaaGreatDoor
open Go.RowKit
abbrev qv (k r a s : Int) : Value := .agg #[.int .i64 k, .int .i64 r, .int .i64 a, .int .i64 s]
theorem cbal (w : World) (o : Obj) : Below w.heap.size w (w.alloc o) := (Below.refl _ _).alloc (Nat.le_refl _) o
theorem ckeep {a b : World} {p : Addr} {v : Value} (hb : Below a.heap.size a b) (h : a.cell? p = some v) : b.cell? p = some v := by
 rw [hb.cell (World.block_lt_of_cell? _ _ h)]; exact h
theorem cRight_is {k r a s regs slots n m : Int} (hn : min regs 4 = n) (hm : min slots 4 = m) : cRight ⟨k, r, a, s⟩ regs slots =
 ((decide (0 ≤ r) && (decide (r < n) && (decide (0 ≤ a) && decide (0 ≤ s)))) && (if k = 1 ∨ k = 2 then decide (a < n) && decide (s < m) else if k = 3 ∨ k = 5 then decide (a = 0) && decide (s = 0) else if k = 4 then decide (a < n) && decide (s = 0) else false)) := by
 subst hn hm; unfold cRight; simp only [Bool.decide_and]
theorem rcRight_any (k r a s regs slots : Int) (w : World) : Calls Tryz.prog 88 #[qv k r a s, .int .i64 regs, .int .i64 slots] w fun e w' => e = .returned (.bool (cRight ⟨k, r, a, s⟩ regs slots)) ∧ Below w.heap.size w w' := by
 obtain ⟨n, hn⟩ : ∃ n, min regs 4 = n := ⟨_, rfl⟩; obtain ⟨m, hm⟩ : ∃ m, min slots 4 = m := ⟨_, rfl⟩; have in1 : (if (4 : Int) < regs then 4 else regs) = n := by rw [← hn]; split <;> omega
 have im1 : (if (4 : Int) < slots then 4 else slots) = m := by rw [← hm]; split <;> omega
 by_cases c0 : 0 ≤ r
 · by_cases c1 : r < n
   · by_cases c2 : 0 ≤ a
     · by_cases c3 : 0 ≤ s
       · by_cases k1 : k = 1
         · subst k1
           by_cases g1 : a < n
           · by_cases g2 : s < m
             · have EF := hide (show cRight ⟨1, r, a, s⟩ regs slots = true by rw [cRight_is hn hm]; simp [c0, c1, c2, c3, g1, g2])
               have d0 := (show ¬ r < 0 by omega); have d1 := (show ¬ n ≤ r by omega); have d2 := (show ¬ a < 0 by omega); have d3 := (show ¬ s < 0 by omega); obtain ⟨w1, e1, hb1, hs1, X⟩ := b4_new w (.int .i64 1) (.int .i64 r) (.int .i64 a) (.int .i64 s) 81; have HE1 := hide e1; obtain ⟨X0, X1, X2, X3⟩ := X.all; clear e1 X; go_enter Tryz.func88, Tryz.ntmps88
               go_upto_region 1 with (fail)
               rw [HE1.out]; go_wp2; go_ret
               exact ⟨ret_bool (by rw [EF.out]), hb1⟩
             · have EF := hide (show cRight ⟨1, r, a, s⟩ regs slots = false by rw [cRight_is hn hm]; simp [c0, c1, c2, c3, g1, g2])
               have d0 := (show ¬ r < 0 by omega); have d1 := (show ¬ n ≤ r by omega); have d2 := (show ¬ a < 0 by omega); have d3 := (show ¬ s < 0 by omega); obtain ⟨w1, e1, hb1, hs1, X⟩ := b4_new w (.int .i64 1) (.int .i64 r) (.int .i64 a) (.int .i64 s) 81; have HE1 := hide e1; obtain ⟨X0, X1, X2, X3⟩ := X.all; clear e1 X; go_enter Tryz.func88, Tryz.ntmps88
               go_upto_region 1 with (fail)
               rw [HE1.out]; go_wp2; go_ret
               exact ⟨ret_bool (by rw [EF.out]), hb1⟩
           · have EF := hide (show cRight ⟨1, r, a, s⟩ regs slots = false by rw [cRight_is hn hm]; simp [c0, c1, c2, c3, g1])
             have d0 := (show ¬ r < 0 by omega); have d1 := (show ¬ n ≤ r by omega); have d2 := (show ¬ a < 0 by omega); have d3 := (show ¬ s < 0 by omega); obtain ⟨w1, e1, hb1, hs1, X⟩ := b4_new w (.int .i64 1) (.int .i64 r) (.int .i64 a) (.int .i64 s) 81; have HE1 := hide e1; obtain ⟨X0, X1, X2, X3⟩ := X.all; clear e1 X; go_enter Tryz.func88, Tryz.ntmps88
             go_upto_region 1 with (fail)
             rw [HE1.out]; go_wp2; go_ret
             exact ⟨ret_bool (by rw [EF.out]), hb1⟩
         · by_cases k2 : k = 2
           · subst k2
             by_cases g1 : a < n
             · by_cases g2 : s < m
               · have EF := hide (show cRight ⟨2, r, a, s⟩ regs slots = true by rw [cRight_is hn hm]; simp [c0, c1, c2, c3, g1, g2])
                 have d0 := (show ¬ r < 0 by omega); have d1 := (show ¬ n ≤ r by omega); have d2 := (show ¬ a < 0 by omega); have d3 := (show ¬ s < 0 by omega); obtain ⟨w1, e1, hb1, hs1, X⟩ := b4_new w (.int .i64 2) (.int .i64 r) (.int .i64 a) (.int .i64 s) 81; have HE1 := hide e1; obtain ⟨X0, X1, X2, X3⟩ := X.all; clear e1 X; go_enter Tryz.func88, Tryz.ntmps88
                 go_upto_region 1 with (fail)
                 rw [HE1.out]; go_wp2; go_ret
                 exact ⟨ret_bool (by rw [EF.out]), hb1⟩
               · have EF := hide (show cRight ⟨2, r, a, s⟩ regs slots = false by rw [cRight_is hn hm]; simp [c0, c1, c2, c3, g1, g2])
                 have d0 := (show ¬ r < 0 by omega); have d1 := (show ¬ n ≤ r by omega); have d2 := (show ¬ a < 0 by omega); have d3 := (show ¬ s < 0 by omega); obtain ⟨w1, e1, hb1, hs1, X⟩ := b4_new w (.int .i64 2) (.int .i64 r) (.int .i64 a) (.int .i64 s) 81; have HE1 := hide e1; obtain ⟨X0, X1, X2, X3⟩ := X.all; clear e1 X; go_enter Tryz.func88, Tryz.ntmps88
                 go_upto_region 1 with (fail)
                 rw [HE1.out]; go_wp2; go_ret
                 exact ⟨ret_bool (by rw [EF.out]), hb1⟩
             · have EF := hide (show cRight ⟨2, r, a, s⟩ regs slots = false by rw [cRight_is hn hm]; simp [c0, c1, c2, c3, g1])
               have d0 := (show ¬ r < 0 by omega); have d1 := (show ¬ n ≤ r by omega); have d2 := (show ¬ a < 0 by omega); have d3 := (show ¬ s < 0 by omega); obtain ⟨w1, e1, hb1, hs1, X⟩ := b4_new w (.int .i64 2) (.int .i64 r) (.int .i64 a) (.int .i64 s) 81; have HE1 := hide e1; obtain ⟨X0, X1, X2, X3⟩ := X.all; clear e1 X; go_enter Tryz.func88, Tryz.ntmps88
               go_upto_region 1 with (fail)
               rw [HE1.out]; go_wp2; go_ret
               exact ⟨ret_bool (by rw [EF.out]), hb1⟩
           · by_cases k3 : k = 3
             · subst k3
               by_cases g1 : a = 0
               · by_cases g2 : s = 0
                 · have EF := hide (show cRight ⟨3, r, a, s⟩ regs slots = true by rw [cRight_is hn hm]; simp [c0, c1, g1, g2])
                   have d0 := (show ¬ r < 0 by omega); have d1 := (show ¬ n ≤ r by omega); have d2 := (show ¬ a < 0 by omega); have d3 := (show ¬ s < 0 by omega); have qg1 : (a == 0) = true := by simp [g1]
                   clear g1; have qg2 : (s == 0) = true := by simp [g2]
                   clear g2; obtain ⟨w1, e1, hb1, hs1, X⟩ := b4_new w (.int .i64 3) (.int .i64 r) (.int .i64 a) (.int .i64 s) 81; have HE1 := hide e1; obtain ⟨X0, X1, X2, X3⟩ := X.all; clear e1 X; go_enter Tryz.func88, Tryz.ntmps88
                   go_upto_region 1 with (fail)
                   rw [HE1.out]; go_wp2; go_ret
                   exact ⟨ret_bool (by rw [EF.out]), hb1⟩
                 · have EF := hide (show cRight ⟨3, r, a, s⟩ regs slots = false by rw [cRight_is hn hm]; simp [c0, c1, c3, g1, g2])
                   have d0 := (show ¬ r < 0 by omega); have d1 := (show ¬ n ≤ r by omega); have d2 := (show ¬ a < 0 by omega); have d3 := (show ¬ s < 0 by omega); have qg1 : (a == 0) = true := by simp [g1]
                   clear g1; have qg2 : (s == 0) = false := by simp [g2]
                   clear g2; obtain ⟨w1, e1, hb1, hs1, X⟩ := b4_new w (.int .i64 3) (.int .i64 r) (.int .i64 a) (.int .i64 s) 81; have HE1 := hide e1; obtain ⟨X0, X1, X2, X3⟩ := X.all; clear e1 X; go_enter Tryz.func88, Tryz.ntmps88
                   go_upto_region 1 with (fail)
                   rw [HE1.out]; go_wp2; go_ret
                   exact ⟨ret_bool (by rw [EF.out]), hb1⟩
               · have EF := hide (show cRight ⟨3, r, a, s⟩ regs slots = false by rw [cRight_is hn hm]; simp [c0, c1, c2, c3, g1])
                 have d0 := (show ¬ r < 0 by omega); have d1 := (show ¬ n ≤ r by omega); have d2 := (show ¬ a < 0 by omega); have d3 := (show ¬ s < 0 by omega); have qg1 : (a == 0) = false := by simp [g1]
                 clear g1; obtain ⟨w1, e1, hb1, hs1, X⟩ := b4_new w (.int .i64 3) (.int .i64 r) (.int .i64 a) (.int .i64 s) 81; have HE1 := hide e1; obtain ⟨X0, X1, X2, X3⟩ := X.all; clear e1 X; go_enter Tryz.func88, Tryz.ntmps88
                 go_upto_region 1 with (fail)
                 rw [HE1.out]; go_wp2; go_ret
                 exact ⟨ret_bool (by rw [EF.out]), hb1⟩
             · by_cases k5 : k = 5
               · subst k5
                 by_cases g1 : a = 0
                 · by_cases g2 : s = 0
                   · have EF := hide (show cRight ⟨5, r, a, s⟩ regs slots = true by rw [cRight_is hn hm]; simp [c0, c1, g1, g2])
                     have d0 := (show ¬ r < 0 by omega); have d1 := (show ¬ n ≤ r by omega); have d2 := (show ¬ a < 0 by omega); have d3 := (show ¬ s < 0 by omega); have qg1 : (a == 0) = true := by simp [g1]
                     clear g1; have qg2 : (s == 0) = true := by simp [g2]
                     clear g2; obtain ⟨w1, e1, hb1, hs1, X⟩ := b4_new w (.int .i64 5) (.int .i64 r) (.int .i64 a) (.int .i64 s) 81; have HE1 := hide e1; obtain ⟨X0, X1, X2, X3⟩ := X.all; clear e1 X; go_enter Tryz.func88, Tryz.ntmps88
                     go_upto_region 1 with (fail)
                     rw [HE1.out]; go_wp2; go_ret
                     exact ⟨ret_bool (by rw [EF.out]), hb1⟩
                   · have EF := hide (show cRight ⟨5, r, a, s⟩ regs slots = false by rw [cRight_is hn hm]; simp [c0, c1, c3, g1, g2])
                     have d0 := (show ¬ r < 0 by omega); have d1 := (show ¬ n ≤ r by omega); have d2 := (show ¬ a < 0 by omega); have d3 := (show ¬ s < 0 by omega); have qg1 : (a == 0) = true := by simp [g1]
                     clear g1; have qg2 : (s == 0) = false := by simp [g2]
                     clear g2; obtain ⟨w1, e1, hb1, hs1, X⟩ := b4_new w (.int .i64 5) (.int .i64 r) (.int .i64 a) (.int .i64 s) 81; have HE1 := hide e1; obtain ⟨X0, X1, X2, X3⟩ := X.all; clear e1 X; go_enter Tryz.func88, Tryz.ntmps88
                     go_upto_region 1 with (fail)
                     rw [HE1.out]; go_wp2; go_ret
                     exact ⟨ret_bool (by rw [EF.out]), hb1⟩
                 · have EF := hide (show cRight ⟨5, r, a, s⟩ regs slots = false by rw [cRight_is hn hm]; simp [c0, c1, c2, c3, g1])
                   have d0 := (show ¬ r < 0 by omega); have d1 := (show ¬ n ≤ r by omega); have d2 := (show ¬ a < 0 by omega); have d3 := (show ¬ s < 0 by omega); have qg1 : (a == 0) = false := by simp [g1]
                   clear g1; obtain ⟨w1, e1, hb1, hs1, X⟩ := b4_new w (.int .i64 5) (.int .i64 r) (.int .i64 a) (.int .i64 s) 81; have HE1 := hide e1; obtain ⟨X0, X1, X2, X3⟩ := X.all; clear e1 X; go_enter Tryz.func88, Tryz.ntmps88
                   go_upto_region 1 with (fail)
                   rw [HE1.out]; go_wp2; go_ret
                   exact ⟨ret_bool (by rw [EF.out]), hb1⟩
               · by_cases k4 : k = 4
                 · subst k4
                   by_cases g1 : a < n
                   · by_cases g2 : s = 0
                     · have EF := hide (show cRight ⟨4, r, a, s⟩ regs slots = true by rw [cRight_is hn hm]; simp [c0, c1, c2, g1, g2])
                       have d0 := (show ¬ r < 0 by omega); have d1 := (show ¬ n ≤ r by omega); have d2 := (show ¬ a < 0 by omega); have d3 := (show ¬ s < 0 by omega); have qg2 : (s == 0) = true := by simp [g2]
                       clear g2; obtain ⟨w1, e1, hb1, hs1, X⟩ := b4_new w (.int .i64 4) (.int .i64 r) (.int .i64 a) (.int .i64 s) 81; have HE1 := hide e1; obtain ⟨X0, X1, X2, X3⟩ := X.all; clear e1 X; go_enter Tryz.func88, Tryz.ntmps88
                       go_upto_region 1 with (fail)
                       rw [HE1.out]; go_wp2; go_ret
                       exact ⟨ret_bool (by rw [EF.out]), hb1⟩
                     · have EF := hide (show cRight ⟨4, r, a, s⟩ regs slots = false by rw [cRight_is hn hm]; simp [c0, c1, c2, c3, g1, g2])
                       have d0 := (show ¬ r < 0 by omega); have d1 := (show ¬ n ≤ r by omega); have d2 := (show ¬ a < 0 by omega); have d3 := (show ¬ s < 0 by omega); have qg2 : (s == 0) = false := by simp [g2]
                       clear g2; obtain ⟨w1, e1, hb1, hs1, X⟩ := b4_new w (.int .i64 4) (.int .i64 r) (.int .i64 a) (.int .i64 s) 81; have HE1 := hide e1; obtain ⟨X0, X1, X2, X3⟩ := X.all; clear e1 X; go_enter Tryz.func88, Tryz.ntmps88
                       go_upto_region 1 with (fail)
                       rw [HE1.out]; go_wp2; go_ret
                       exact ⟨ret_bool (by rw [EF.out]), hb1⟩
                   · have EF := hide (show cRight ⟨4, r, a, s⟩ regs slots = false by rw [cRight_is hn hm]; simp [c0, c1, c2, c3, g1])
                     have d0 := (show ¬ r < 0 by omega); have d1 := (show ¬ n ≤ r by omega); have d2 := (show ¬ a < 0 by omega); have d3 := (show ¬ s < 0 by omega); obtain ⟨w1, e1, hb1, hs1, X⟩ := b4_new w (.int .i64 4) (.int .i64 r) (.int .i64 a) (.int .i64 s) 81; have HE1 := hide e1; obtain ⟨X0, X1, X2, X3⟩ := X.all; clear e1 X; go_enter Tryz.func88, Tryz.ntmps88
                     go_upto_region 1 with (fail)
                     rw [HE1.out]; go_wp2; go_ret
                     exact ⟨ret_bool (by rw [EF.out]), hb1⟩
                 · have EF := hide (show cRight ⟨k, r, a, s⟩ regs slots = false by rw [cRight_is hn hm]; simp [c0, c1, c2, c3, k1, k2, k3, k4, k5])
                   have d0 := (show ¬ r < 0 by omega); have d1 := (show ¬ n ≤ r by omega); have d2 := (show ¬ a < 0 by omega); have d3 := (show ¬ s < 0 by omega); obtain ⟨w1, e1, hb1, hs1, X⟩ := b4_new w (.int .i64 k) (.int .i64 r) (.int .i64 a) (.int .i64 s) 81; have HE1 := hide e1; obtain ⟨X0, X1, X2, X3⟩ := X.all; clear e1 X; go_enter Tryz.func88, Tryz.ntmps88
                   go_upto_region 1 with (fail)
                   rw [HE1.out]; go_wp2; go_ret
                   exact ⟨ret_bool (by rw [EF.out]), hb1⟩
       · have EF := hide (show cRight ⟨k, r, a, s⟩ regs slots = false by rw [cRight_is hn hm]; simp [c0, c1, c2, c3])
         have d0 := (show ¬ r < 0 by omega); have d1 := (show ¬ n ≤ r by omega); have d2 := (show ¬ a < 0 by omega); have d3 := (show s < 0 by omega); obtain ⟨w1, e1, hb1, hs1, X⟩ := b4_new w (.int .i64 k) (.int .i64 r) (.int .i64 a) (.int .i64 s) 81; have HE1 := hide e1; obtain ⟨X0, X1, X2, X3⟩ := X.all; clear e1 X; go_enter Tryz.func88, Tryz.ntmps88
         go_upto_region 1 with (fail)
         rw [HE1.out]; go_wp2; go_ret
         exact ⟨ret_bool (by rw [EF.out]), hb1⟩
     · have EF := hide (show cRight ⟨k, r, a, s⟩ regs slots = false by rw [cRight_is hn hm]; simp [c0, c1, c2])
       have d0 := (show ¬ r < 0 by omega); have d1 := (show ¬ n ≤ r by omega); have d2 := (show a < 0 by omega); obtain ⟨w1, e1, hb1, hs1, X⟩ := b4_new w (.int .i64 k) (.int .i64 r) (.int .i64 a) (.int .i64 s) 81; have HE1 := hide e1; obtain ⟨X0, X1, X2, X3⟩ := X.all; clear e1 X; go_enter Tryz.func88, Tryz.ntmps88
       go_upto_region 1 with (fail)
       rw [HE1.out]; go_wp2; go_ret
       exact ⟨ret_bool (by rw [EF.out]), hb1⟩
   · have EF := hide (show cRight ⟨k, r, a, s⟩ regs slots = false by rw [cRight_is hn hm]; simp [c0, c1])
     have d0 := (show ¬ r < 0 by omega); have d1 := (show n ≤ r by omega); obtain ⟨w1, e1, hb1, hs1, X⟩ := b4_new w (.int .i64 k) (.int .i64 r) (.int .i64 a) (.int .i64 s) 81; have HE1 := hide e1; obtain ⟨X0, X1, X2, X3⟩ := X.all; clear e1 X; go_enter Tryz.func88, Tryz.ntmps88
     go_upto_region 1 with (fail)
     rw [HE1.out]; go_wp2; go_ret
     exact ⟨ret_bool (by rw [EF.out]), hb1⟩
 · have EF := hide (show cRight ⟨k, r, a, s⟩ regs slots = false by rw [cRight_is hn hm]; simp [c0])
   have d0 := (show r < 0 by omega); obtain ⟨w1, e1, hb1, hs1, X⟩ := b4_new w (.int .i64 k) (.int .i64 r) (.int .i64 a) (.int .i64 s) 81; have HE1 := hide e1; obtain ⟨X0, X1, X2, X3⟩ := X.all; clear e1 X; go_enter Tryz.func88, Tryz.ntmps88
   go_upto_region 1 with (fail)
   rw [HE1.out]; go_wp2; go_ret
   exact ⟨ret_bool (by rw [EF.out]), hb1⟩
theorem cconv1 (w : World) (x : Int) (h0 : 0 ≤ x) (h1 : x ≤ 255) :
 (convert 31 9 (.slice (some ⟨w.heap.size, 0, none⟩) 1 1)).run Tryz.prog (w.alloc (.cells #[.int .u8 x] 5)) = .ok (.string ⟨[x.toNat.toUInt8].toArray⟩) (w.alloc (.cells #[.int .u8 x] 5)) := by
 refine run_convert_bytes_back (w.alloc (.cells #[.int .u8 x] 5)) 31 9 5 ⟨w.heap.size, 0, none⟩ 1 [x.toNat.toUInt8] Tryz.underlying31 Tryz.underlying5 Tryz.underlying9 fun j hj => ?_
 obtain rfl : j = 0 := by simpa using hj
 rw [row_new w [.int .u8 x] 5 0 _ rfl]; simp; omega
theorem cret {s : ByteArray} {l : List UInt8} (h : s = ⟨l.toArray⟩) : Ending.returned (.string s) = .returned (.string ⟨l.toArray⟩) := by rw [h]
theorem cwrap {x : Int} (h0 : 0 ≤ x) (h1 : x ≤ 255) : IntKind.u8.wrap x = x := by simp [IntKind.wrap, IntKind.bits, IntKind.signed]; omega
theorem clet {r : Int} (h : 0 ≤ r) : UInt8.ofNat (65 + r).toNat = cLet r := by unfold cLet; rw [show (65 + r).toNat = 65 + r.toNat by omega]
theorem cdig {s : Int} (h : 0 ≤ s) : UInt8.ofNat (48 + s).toNat = cDig s := by unfold cDig; rw [show (48 + s).toNat = 48 + s.toNat by omega]
theorem letter_any (r : Int) (hr : 0 ≤ r ∧ r < 4) (w : World) : Calls Tryz.prog 150 #[.int .i64 r] w fun e w' => e = .returned (.string ⟨#[cLet r]⟩) ∧ Below w.heap.size w w' := by
 obtain ⟨h0, h1⟩ := hr; have e1 := cwrap (x := 65 + r) (by omega) (by omega); have hc := cconv1 w (65 + r) (by omega) (by omega); have HL := hide (clet h0); go_enter Tryz.func150, Tryz.ntmps150
 go_wp2; go_ret
 exact ⟨cret (l := [cLet r]) (by rw [← HL.out]), cbal _ _⟩
theorem cText_no {k r a s : Int} (h : cRight ⟨k, r, a, s⟩ 4 4 = false) : cText ⟨k, r, a, s⟩ = [63] := by unfold cText; rw [h]; rfl
theorem cRight_rng {k r a s : Int} (h : cRight ⟨k, r, a, s⟩ 4 4 = true) : (0 ≤ r ∧ r < 4) ∧ (0 ≤ a ∧ a < 4) ∧ (0 ≤ s ∧ s < 4) ∧ (k = 1 ∨ k = 2 ∨ k = 3 ∨ k = 4 ∨ k = 5) := by
 rw [cRight_is (n := 4) (m := 4) rfl rfl] at h; simp only [Bool.and_eq_true, decide_eq_true_eq] at h; obtain ⟨⟨h0, h1, h2, h3⟩, h4⟩ := h; by_cases k1 : k = 1 ∨ k = 2
 · rw [if_pos k1] at h4; simp only [Bool.and_eq_true, decide_eq_true_eq] at h4; omega
 · rw [if_neg k1] at h4
   by_cases k3 : k = 3 ∨ k = 5
   · rw [if_pos k3] at h4; simp only [Bool.and_eq_true, decide_eq_true_eq] at h4; omega
   · rw [if_neg k3] at h4
     by_cases k4 : k = 4
     · rw [if_pos k4] at h4; simp only [Bool.and_eq_true, decide_eq_true_eq] at h4; omega
     · rw [if_neg k4] at h4; cases h4
theorem rcText_no (k r a s : Int) (h : cRight ⟨k, r, a, s⟩ 4 4 = false) (w : World) : Calls Tryz.prog 106 #[qv k r a s] w fun e w' => e = .returned (.string ⟨(cText ⟨k, r, a, s⟩).toArray⟩) ∧ Below w.heap.size w w' := by
 have H := hide h; have EF := hide (cText_no h); clear h; obtain ⟨w1, e1, hb1, hs1, X⟩ := b4_new w (.int .i64 k) (.int .i64 r) (.int .i64 a) (.int .i64 s) 81; have HE1 := hide e1; have HX := hide X; obtain ⟨X0, X1, X2, X3⟩ := X.all; clear e1 X; go_enter Tryz.func106, Tryz.ntmps106
 go_upto_region 1 with (fail)
 rw [HE1.out]; go_wp2_with fail
 (with_reducible refine (rcRight_any k r a s 4 4 _).mono ?_); rintro e w2 ⟨rfl, hb2⟩; rw [H.out]; have HX2 := hide (HX.out.below hb2); have hB := bcall hb1 hb2; clear X0 X1 X2 X3; obtain ⟨X0, X1, X2, X3⟩ := HX2.out.all; go_wp2; go_ret
 exact ⟨cret (by rw [EF.out]), hB⟩
theorem cconv_at {w w2 : World} {x : Int} (h0 : 0 ≤ x) (h1 : x ≤ 255) (hb : Below (w.alloc (.cells #[.int .u8 x] 5)).heap.size (w.alloc (.cells #[.int .u8 x] 5)) w2) :
 (convert 31 9 (.slice (some ⟨w.heap.size, 0, none⟩) 1 1)).run Tryz.prog w2 = .ok (.string ⟨[x.toNat.toUInt8].toArray⟩) w2 := by
 refine run_convert_bytes_back w2 31 9 5 ⟨w.heap.size, 0, none⟩ 1 [x.toNat.toUInt8] Tryz.underlying31 Tryz.underlying5 Tryz.underlying9 fun j hj => ?_
 obtain rfl : j = 0 := by simpa using hj
 rw [add_none, hb.cell (by simp), ← add_none, row_new w [.int .u8 x] 5 0 _ rfl]; simp; omega
theorem rcText_1 (r a s : Int) (h : cRight ⟨1, r, a, s⟩ 4 4 = true) (w : World) : Calls Tryz.prog 106 #[qv 1 r a s] w fun e w' => e = .returned (.string ⟨(cText ⟨1, r, a, s⟩).toArray⟩) ∧ Below w.heap.size w w' := by
 have H := hide h; obtain ⟨⟨r0, r1⟩, ⟨a0, a1⟩, ⟨s0, s1⟩, -⟩ := cRight_rng h; have e1 := cwrap (x := 48 + s) (by omega) (by omega); have iw : IntKind.i64.wrap (48 + s) = 48 + s := by simp [IntKind.wrap, IntKind.bits, IntKind.signed]; omega
 have hc := fun w : World => cconv1 w (48 + s) (by omega) (by omega)
 have hcd := fun w : World => cconv_at (w := w) (x := 48 + s) (by omega) (by omega) ((Below.refl _ _).drew)
 have HD := hide (cdig s0); have HR := hide (show 0 ≤ r ∧ r < 4 from ⟨r0, r1⟩); have HA := hide (show 0 ≤ a ∧ a < 4 from ⟨a0, a1⟩); have HS := hide (show 0 ≤ 48 + s ∧ 48 + s ≤ 255 by omega); have EF := hide (show cText ⟨1, r, a, s⟩ = [cLet r, 61, cLet a, 46, cDig s] by unfold cText; rw [h]; rfl); clear h r0 r1 a0 a1 s0 s1; obtain ⟨w1, e1, hb1, hs1, X⟩ := b4_new w (.int .i64 1) (.int .i64 r) (.int .i64 a) (.int .i64 s) 81; have HE1 := hide e1; have HX := hide X; obtain ⟨X0, X1, X2, X3⟩ := X.all; clear e1 X; go_enter Tryz.func106, Tryz.ntmps106
 go_upto_region 1 with (fail)
 rw [HE1.out]; go_wp2_with fail
 (with_reducible refine (rcRight_any 1 r a s 4 4 _).mono ?_); rintro e w2 ⟨rfl, hb2⟩; rw [H.out]; have HX2 := hide (HX.out.below hb2); have hB := bcall hb1 hb2; clear X0 X1 X2 X3; obtain ⟨X0, X1, X2, X3⟩ := HX2.out.all; have Xa0 := fun ob => ckeep (cbal w2 ob) X0
 have Xa1 := fun ob => ckeep (cbal w2 ob) X1
 have Xa2 := fun ob => ckeep (cbal w2 ob) X2
 have Xa3 := fun ob => ckeep (cbal w2 ob) X3
 go_upto_region 3 with (fail)
 go_region_law (first | (go_simp; go_at_call 150; (with_reducible refine (letter_any a HA.out _).mono ?_); rintro e w3 ⟨rfl, hb3⟩; have hb4 : Below w2.heap.size w2 w3 := (by first | exact ⟨hb3.os, hb3.tape, hb3.output, hb3.size, hb3.block⟩ | exact bcall (cbal w2 _) ⟨hb3.os, hb3.tape, hb3.output, hb3.size, hb3.block⟩); (first | (have hc3 := cconv_at (w := w2) HS.out.1 HS.out.2 ⟨hb3.os, hb3.tape, hb3.output, hb3.size, hb3.block⟩) | skip); have X0 := ckeep hb4 X0; have X1 := ckeep hb4 X1; have X2 := ckeep hb4 X2; have X3 := ckeep hb4 X3; have Xb0 := (fun ob => ckeep (cbal w3 ob) X0); have Xb1 := (fun ob => ckeep (cbal w3 ob) X1); have Xb2 := (fun ob => ckeep (cbal w3 ob) X2); have Xb3 := (fun ob => ckeep (cbal w3 ob) X3); have hB := bcall hB hb4; clear hb3))
 all_goals
  go_wp2_with fail
  (with_reducible refine (letter_any r HR.out _).mono ?_); rintro e w5 ⟨rfl, hb5⟩; go_wp2; go_ret
  refine ⟨cret ?_, ?_⟩
  · rw [EF.out, ← HD.out]
    apply ByteArray.ext
    simp [ByteArray.data_append]
  · first
    | exact bcall hB ⟨hb5.os, hb5.tape, hb5.output, hb5.size, hb5.block⟩
    | exact bcall (bcall hB (cbal w3 _)) ⟨hb5.os, hb5.tape, hb5.output, hb5.size, hb5.block⟩
theorem rcText_2 (r a s : Int) (h : cRight ⟨2, r, a, s⟩ 4 4 = true) (w : World) : Calls Tryz.prog 106 #[qv 2 r a s] w fun e w' => e = .returned (.string ⟨(cText ⟨2, r, a, s⟩).toArray⟩) ∧ Below w.heap.size w w' := by
 have H := hide h; obtain ⟨⟨r0, r1⟩, ⟨a0, a1⟩, ⟨s0, s1⟩, -⟩ := cRight_rng h; have e1 := cwrap (x := 48 + s) (by omega) (by omega); have iw : IntKind.i64.wrap (48 + s) = 48 + s := by simp [IntKind.wrap, IntKind.bits, IntKind.signed]; omega
 have hc := fun w : World => cconv1 w (48 + s) (by omega) (by omega)
 have hcd := fun w : World => cconv_at (w := w) (x := 48 + s) (by omega) (by omega) ((Below.refl _ _).drew)
 have HD := hide (cdig s0); have HR := hide (show 0 ≤ r ∧ r < 4 from ⟨r0, r1⟩); have HA := hide (show 0 ≤ a ∧ a < 4 from ⟨a0, a1⟩); have HS := hide (show 0 ≤ 48 + s ∧ 48 + s ≤ 255 by omega); have EF := hide (show cText ⟨2, r, a, s⟩ = [cLet a, 46, cDig s, 61, cLet r] by unfold cText; rw [h]; rfl); clear h r0 r1 a0 a1 s0 s1; obtain ⟨w1, e1, hb1, hs1, X⟩ := b4_new w (.int .i64 2) (.int .i64 r) (.int .i64 a) (.int .i64 s) 81; have HE1 := hide e1; have HX := hide X; obtain ⟨X0, X1, X2, X3⟩ := X.all; clear e1 X; go_enter Tryz.func106, Tryz.ntmps106
 go_upto_region 1 with (fail)
 rw [HE1.out]; go_wp2_with fail
 (with_reducible refine (rcRight_any 2 r a s 4 4 _).mono ?_); rintro e w2 ⟨rfl, hb2⟩; rw [H.out]; have HX2 := hide (HX.out.below hb2); have hB := bcall hb1 hb2; clear X0 X1 X2 X3; obtain ⟨X0, X1, X2, X3⟩ := HX2.out.all; have Xa0 := fun ob => ckeep (cbal w2 ob) X0
 have Xa1 := fun ob => ckeep (cbal w2 ob) X1
 have Xa2 := fun ob => ckeep (cbal w2 ob) X2
 have Xa3 := fun ob => ckeep (cbal w2 ob) X3
 go_upto_region 3 with (fail)
 go_region_law (first | (go_simp; go_at_call 150; (with_reducible refine (letter_any a HA.out _).mono ?_); rintro e w3 ⟨rfl, hb3⟩; have hb4 : Below w2.heap.size w2 w3 := (by first | exact ⟨hb3.os, hb3.tape, hb3.output, hb3.size, hb3.block⟩ | exact bcall (cbal w2 _) ⟨hb3.os, hb3.tape, hb3.output, hb3.size, hb3.block⟩); (first | (have hc3 := cconv_at (w := w2) HS.out.1 HS.out.2 ⟨hb3.os, hb3.tape, hb3.output, hb3.size, hb3.block⟩) | skip); have X0 := ckeep hb4 X0; have X1 := ckeep hb4 X1; have X2 := ckeep hb4 X2; have X3 := ckeep hb4 X3; have Xb0 := (fun ob => ckeep (cbal w3 ob) X0); have Xb1 := (fun ob => ckeep (cbal w3 ob) X1); have Xb2 := (fun ob => ckeep (cbal w3 ob) X2); have Xb3 := (fun ob => ckeep (cbal w3 ob) X3); have hB := bcall hB hb4; clear hb3))
 all_goals
  go_wp2_with fail
  (with_reducible refine (letter_any r HR.out _).mono ?_); rintro e w5 ⟨rfl, hb5⟩; go_wp2; go_ret
  refine ⟨cret ?_, ?_⟩
  · rw [EF.out, ← HD.out]
    apply ByteArray.ext
    simp [ByteArray.data_append]
  · first
    | exact bcall hB ⟨hb5.os, hb5.tape, hb5.output, hb5.size, hb5.block⟩
    | exact bcall (bcall hB (cbal w3 _)) ⟨hb5.os, hb5.tape, hb5.output, hb5.size, hb5.block⟩
theorem rcText_3 (r a s : Int) (h : cRight ⟨3, r, a, s⟩ 4 4 = true) (w : World) : Calls Tryz.prog 106 #[qv 3 r a s] w fun e w' => e = .returned (.string ⟨(cText ⟨3, r, a, s⟩).toArray⟩) ∧ Below w.heap.size w w' := by
 have H := hide h; obtain ⟨⟨r0, r1⟩, ⟨a0, a1⟩, ⟨s0, s1⟩, -⟩ := cRight_rng h; have e1 := cwrap (x := 48 + s) (by omega) (by omega); have iw : IntKind.i64.wrap (48 + s) = 48 + s := by simp [IntKind.wrap, IntKind.bits, IntKind.signed]; omega
 have hc := fun w : World => cconv1 w (48 + s) (by omega) (by omega)
 have hcd := fun w : World => cconv_at (w := w) (x := 48 + s) (by omega) (by omega) ((Below.refl _ _).drew)
 have HD := hide (cdig s0); have HR := hide (show 0 ≤ r ∧ r < 4 from ⟨r0, r1⟩); have HA := hide (show 0 ≤ a ∧ a < 4 from ⟨a0, a1⟩); have HS := hide (show 0 ≤ 48 + s ∧ 48 + s ≤ 255 by omega); have EF := hide (show cText ⟨3, r, a, s⟩ = [cLet r, 61, 110, 101, 119] by unfold cText; rw [h]; rfl); clear h r0 r1 a0 a1 s0 s1; obtain ⟨w1, e1, hb1, hs1, X⟩ := b4_new w (.int .i64 3) (.int .i64 r) (.int .i64 a) (.int .i64 s) 81; have HE1 := hide e1; have HX := hide X; obtain ⟨X0, X1, X2, X3⟩ := X.all; clear e1 X; go_enter Tryz.func106, Tryz.ntmps106
 go_upto_region 1 with (fail)
 rw [HE1.out]; go_wp2_with fail
 (with_reducible refine (rcRight_any 3 r a s 4 4 _).mono ?_); rintro e w2 ⟨rfl, hb2⟩; rw [H.out]; have HX2 := hide (HX.out.below hb2); have hB := bcall hb1 hb2; clear X0 X1 X2 X3; obtain ⟨X0, X1, X2, X3⟩ := HX2.out.all; have Xa0 := fun ob => ckeep (cbal w2 ob) X0
 have Xa1 := fun ob => ckeep (cbal w2 ob) X1
 have Xa2 := fun ob => ckeep (cbal w2 ob) X2
 have Xa3 := fun ob => ckeep (cbal w2 ob) X3
 go_upto_region 3 with (fail)
 go_region_law (first | (go_simp; go_at_call 150; (with_reducible refine (letter_any a HA.out _).mono ?_); rintro e w3 ⟨rfl, hb3⟩; have hb4 : Below w2.heap.size w2 w3 := (by first | exact ⟨hb3.os, hb3.tape, hb3.output, hb3.size, hb3.block⟩ | exact bcall (cbal w2 _) ⟨hb3.os, hb3.tape, hb3.output, hb3.size, hb3.block⟩); (first | (have hc3 := cconv_at (w := w2) HS.out.1 HS.out.2 ⟨hb3.os, hb3.tape, hb3.output, hb3.size, hb3.block⟩) | skip); have X0 := ckeep hb4 X0; have X1 := ckeep hb4 X1; have X2 := ckeep hb4 X2; have X3 := ckeep hb4 X3; have Xb0 := (fun ob => ckeep (cbal w3 ob) X0); have Xb1 := (fun ob => ckeep (cbal w3 ob) X1); have Xb2 := (fun ob => ckeep (cbal w3 ob) X2); have Xb3 := (fun ob => ckeep (cbal w3 ob) X3); have hB := bcall hB hb4; clear hb3))
 all_goals
  go_wp2_with fail
  (with_reducible refine (letter_any r HR.out _).mono ?_); rintro e w5 ⟨rfl, hb5⟩; go_wp2; go_ret
  refine ⟨cret ?_, ?_⟩
  · rw [EF.out]
    apply ByteArray.ext
    simp [ByteArray.data_append]
  · first
    | exact bcall hB ⟨hb5.os, hb5.tape, hb5.output, hb5.size, hb5.block⟩
    | exact bcall (bcall hB (cbal w3 _)) ⟨hb5.os, hb5.tape, hb5.output, hb5.size, hb5.block⟩
theorem rcText_5 (r a s : Int) (h : cRight ⟨5, r, a, s⟩ 4 4 = true) (w : World) : Calls Tryz.prog 106 #[qv 5 r a s] w fun e w' => e = .returned (.string ⟨(cText ⟨5, r, a, s⟩).toArray⟩) ∧ Below w.heap.size w w' := by
 have H := hide h; obtain ⟨⟨r0, r1⟩, ⟨a0, a1⟩, ⟨s0, s1⟩, -⟩ := cRight_rng h; have e1 := cwrap (x := 48 + s) (by omega) (by omega); have iw : IntKind.i64.wrap (48 + s) = 48 + s := by simp [IntKind.wrap, IntKind.bits, IntKind.signed]; omega
 have hc := fun w : World => cconv1 w (48 + s) (by omega) (by omega)
 have hcd := fun w : World => cconv_at (w := w) (x := 48 + s) (by omega) (by omega) ((Below.refl _ _).drew)
 have HD := hide (cdig s0); have HR := hide (show 0 ≤ r ∧ r < 4 from ⟨r0, r1⟩); have HA := hide (show 0 ≤ a ∧ a < 4 from ⟨a0, a1⟩); have HS := hide (show 0 ≤ 48 + s ∧ 48 + s ≤ 255 by omega); have EF := hide (show cText ⟨5, r, a, s⟩ = [cLet r, 61, 48] by unfold cText; rw [h]; rfl); clear h r0 r1 a0 a1 s0 s1; obtain ⟨w1, e1, hb1, hs1, X⟩ := b4_new w (.int .i64 5) (.int .i64 r) (.int .i64 a) (.int .i64 s) 81; have HE1 := hide e1; have HX := hide X; obtain ⟨X0, X1, X2, X3⟩ := X.all; clear e1 X; go_enter Tryz.func106, Tryz.ntmps106
 go_upto_region 1 with (fail)
 rw [HE1.out]; go_wp2_with fail
 (with_reducible refine (rcRight_any 5 r a s 4 4 _).mono ?_); rintro e w2 ⟨rfl, hb2⟩; rw [H.out]; have HX2 := hide (HX.out.below hb2); have hB := bcall hb1 hb2; clear X0 X1 X2 X3; obtain ⟨X0, X1, X2, X3⟩ := HX2.out.all; have Xa0 := fun ob => ckeep (cbal w2 ob) X0
 have Xa1 := fun ob => ckeep (cbal w2 ob) X1
 have Xa2 := fun ob => ckeep (cbal w2 ob) X2
 have Xa3 := fun ob => ckeep (cbal w2 ob) X3
 go_upto_region 3 with (fail)
 go_region_law (first | (go_simp; go_at_call 150; (with_reducible refine (letter_any a HA.out _).mono ?_); rintro e w3 ⟨rfl, hb3⟩; have hb4 : Below w2.heap.size w2 w3 := (by first | exact ⟨hb3.os, hb3.tape, hb3.output, hb3.size, hb3.block⟩ | exact bcall (cbal w2 _) ⟨hb3.os, hb3.tape, hb3.output, hb3.size, hb3.block⟩); (first | (have hc3 := cconv_at (w := w2) HS.out.1 HS.out.2 ⟨hb3.os, hb3.tape, hb3.output, hb3.size, hb3.block⟩) | skip); have X0 := ckeep hb4 X0; have X1 := ckeep hb4 X1; have X2 := ckeep hb4 X2; have X3 := ckeep hb4 X3; have Xb0 := (fun ob => ckeep (cbal w3 ob) X0); have Xb1 := (fun ob => ckeep (cbal w3 ob) X1); have Xb2 := (fun ob => ckeep (cbal w3 ob) X2); have Xb3 := (fun ob => ckeep (cbal w3 ob) X3); have hB := bcall hB hb4; clear hb3))
 all_goals
  go_wp2_with fail
  (with_reducible refine (letter_any r HR.out _).mono ?_); rintro e w5 ⟨rfl, hb5⟩; go_wp2; go_ret
  refine ⟨cret ?_, ?_⟩
  · rw [EF.out]
    apply ByteArray.ext
    simp [ByteArray.data_append]
  · first
    | exact bcall hB ⟨hb5.os, hb5.tape, hb5.output, hb5.size, hb5.block⟩
    | exact bcall (bcall hB (cbal w3 _)) ⟨hb5.os, hb5.tape, hb5.output, hb5.size, hb5.block⟩
theorem rcText_4 (r a s : Int) (h : cRight ⟨4, r, a, s⟩ 4 4 = true) (w : World) : Calls Tryz.prog 106 #[qv 4 r a s] w fun e w' => e = .returned (.string ⟨(cText ⟨4, r, a, s⟩).toArray⟩) ∧ Below w.heap.size w w' := by
 have H := hide h; obtain ⟨⟨r0, r1⟩, ⟨a0, a1⟩, ⟨s0, s1⟩, -⟩ := cRight_rng h; have e1 := cwrap (x := 48 + s) (by omega) (by omega); have iw : IntKind.i64.wrap (48 + s) = 48 + s := by simp [IntKind.wrap, IntKind.bits, IntKind.signed]; omega
 have hc := fun w : World => cconv1 w (48 + s) (by omega) (by omega)
 have hcd := fun w : World => cconv_at (w := w) (x := 48 + s) (by omega) (by omega) ((Below.refl _ _).drew)
 have HD := hide (cdig s0); have HR := hide (show 0 ≤ r ∧ r < 4 from ⟨r0, r1⟩); have HA := hide (show 0 ≤ a ∧ a < 4 from ⟨a0, a1⟩); have HS := hide (show 0 ≤ 48 + s ∧ 48 + s ≤ 255 by omega); have EF := hide (show cText ⟨4, r, a, s⟩ = [cLet r, 61, cLet a] by unfold cText; rw [h]; rfl); clear h r0 r1 a0 a1 s0 s1; obtain ⟨w1, e1, hb1, hs1, X⟩ := b4_new w (.int .i64 4) (.int .i64 r) (.int .i64 a) (.int .i64 s) 81; have HE1 := hide e1; have HX := hide X; obtain ⟨X0, X1, X2, X3⟩ := X.all; clear e1 X; go_enter Tryz.func106, Tryz.ntmps106
 go_upto_region 1 with (fail)
 rw [HE1.out]; go_wp2_with fail
 (with_reducible refine (rcRight_any 4 r a s 4 4 _).mono ?_); rintro e w2 ⟨rfl, hb2⟩; rw [H.out]; have HX2 := hide (HX.out.below hb2); have hB := bcall hb1 hb2; clear X0 X1 X2 X3; obtain ⟨X0, X1, X2, X3⟩ := HX2.out.all; have Xa0 := fun ob => ckeep (cbal w2 ob) X0
 have Xa1 := fun ob => ckeep (cbal w2 ob) X1
 have Xa2 := fun ob => ckeep (cbal w2 ob) X2
 have Xa3 := fun ob => ckeep (cbal w2 ob) X3
 go_upto_region 3 with (fail)
 go_region_law (first | (go_simp; go_at_call 150; (with_reducible refine (letter_any a HA.out _).mono ?_); rintro e w3 ⟨rfl, hb3⟩; have hb4 : Below w2.heap.size w2 w3 := (by first | exact ⟨hb3.os, hb3.tape, hb3.output, hb3.size, hb3.block⟩ | exact bcall (cbal w2 _) ⟨hb3.os, hb3.tape, hb3.output, hb3.size, hb3.block⟩); (first | (have hc3 := cconv_at (w := w2) HS.out.1 HS.out.2 ⟨hb3.os, hb3.tape, hb3.output, hb3.size, hb3.block⟩) | skip); have X0 := ckeep hb4 X0; have X1 := ckeep hb4 X1; have X2 := ckeep hb4 X2; have X3 := ckeep hb4 X3; have Xb0 := (fun ob => ckeep (cbal w3 ob) X0); have Xb1 := (fun ob => ckeep (cbal w3 ob) X1); have Xb2 := (fun ob => ckeep (cbal w3 ob) X2); have Xb3 := (fun ob => ckeep (cbal w3 ob) X3); have hB := bcall hB hb4; clear hb3))
 all_goals
  go_wp2; go_region_law (first | (go_simp; go_at_call 150; (first | (with_reducible refine (letter_any r HR.out _).mono ?_) | (with_reducible refine (letter_any a HA.out _).mono ?_)); rintro e w5 ⟨rfl, hb5⟩; (first | (have hB := (show Below w.heap.size w w5 by first | exact bcall hB ⟨hb5.os, hb5.tape, hb5.output, hb5.size, hb5.block⟩ | exact bcall (bcall hB (cbal w3 _)) ⟨hb5.os, hb5.tape, hb5.output, hb5.size, hb5.block⟩)) | skip); (first | (have X2 := ckeep (a := w3) (show Below w3.heap.size w3 w5 by first | exact ⟨hb5.os, hb5.tape, hb5.output, hb5.size, hb5.block⟩ | exact bcall (cbal w3 _) ⟨hb5.os, hb5.tape, hb5.output, hb5.size, hb5.block⟩) X2) | skip); clear hb5))
  all_goals
   go_wp2; go_ret
   refine ⟨cret ?_, ?_⟩
   · rw [EF.out]
     apply ByteArray.ext
     simp [ByteArray.data_append]
   · exact hB
theorem rcText_any (k r a s : Int) (w : World) : Calls Tryz.prog 106 #[qv k r a s] w fun e w' => e = .returned (.string ⟨(cText ⟨k, r, a, s⟩).toArray⟩) ∧ Below w.heap.size w w' := by
 cases h : cRight ⟨k, r, a, s⟩ 4 4
 · exact rcText_no k r a s h w
 · obtain ⟨-, -, -, hk⟩ := cRight_rng h
   rcases hk with rfl | rfl | rfl | rfl | rfl
   · exact rcText_1 r a s h w
   · exact rcText_2 r a s h w
   · exact rcText_3 r a s h w
   · exact rcText_4 r a s h w
   · exact rcText_5 r a s h w
def oq (o : Oq) : List Value := [.int .i64 o.kind, .int .i64 o.r, .int .i64 o.a, .int .i64 o.s]
theorem oq_len (o : Oq) : (oq o).length = 4 := rfl
abbrev Oqs (w : World) (v : Value) (l : List Oq) : Prop := Sl oq 4 w v l
theorem oq_at {w : World} {A : Option Addr} {n c i : Nat} {l : List Oq} {k t a b : Int} (h : Oqs w (.slice A n c) l) (hi : i < l.length) (e : l[i] = ⟨k, t, a, b⟩) :
 ∃ g off, A = some ⟨g, off, none⟩ ∧ g < w.heap.size ∧ w.cell? ⟨g, off + i * 4, none⟩ = some (.int .i64 k) ∧ w.cell? ⟨g, off + i * 4 + 1, none⟩ = some (.int .i64 t) ∧ w.cell? ⟨g, off + i * 4 + 2, none⟩ = some (.int .i64 a) ∧ w.cell? ⟨g, off + i * 4 + 3, none⟩ = some (.int .i64 b) := by
 obtain ⟨A', c', e0, h1, h2, h3⟩ := h; injection e0 with e1 e2 e3; subst e1; obtain ⟨g, off, rfl, hb, hc⟩ := h3 (by omega); have hd := List.getElem?_eq_getElem hi; rw [e] at hd; exact ⟨g, off, rfl, hb, hc i _ hd 0 _ rfl, hc i _ hd 1 _ rfl, hc i _ hd 2 _ rfl, hc i _ hd 3 _ rfl⟩
def Lx (t : List UInt8) (K R A S : Int) : Prop := ∀ o : Oq, cRight o 4 4 = true → cText o = t → K < o.kind ∨ o.kind = K ∧ (R < o.r ∨ o.r = R ∧ (A < o.a ∨ o.a = A ∧ S ≤ o.s))
theorem lx_start (t : List UInt8) : Lx t 1 0 0 0 := fun ⟨k, r, a, s⟩ h _ => by have := cRight_rng h; simp only; omega
theorem lx_next {t : List UInt8} {K R A S : Int} (h : Lx t K R A S) (hn : ¬ (cRight ⟨K, R, A, S⟩ 4 4 = true ∧ cText ⟨K, R, A, S⟩ = t)) : Lx t K R A (S + 1) := fun ⟨k, r, a, s⟩ h1 h2 => by
 have h3 := h ⟨k, r, a, s⟩ h1 h2; simp only at h3 ⊢
 by_cases e : k = K ∧ r = R ∧ a = A ∧ s = S
 · obtain ⟨rfl, rfl, rfl, rfl⟩ := e; exact absurd ⟨h1, h2⟩ hn
 · omega
theorem lx_a {t : List UInt8} {K R A : Int} (h : Lx t K R A 4) : Lx t K R (A + 1) 0 := fun ⟨k, r, a, s⟩ h1 h2 => by
 have h3 := h ⟨k, r, a, s⟩ h1 h2; have := cRight_rng h1; simp only at h3 ⊢; omega
theorem lx_r {t : List UInt8} {K R : Int} (h : Lx t K R 4 0) : Lx t K (R + 1) 0 0 := fun ⟨k, r, a, s⟩ h1 h2 => by
 have h3 := h ⟨k, r, a, s⟩ h1 h2; have := cRight_rng h1; simp only at h3 ⊢; omega
theorem lx_k {t : List UInt8} {K : Int} (h : Lx t K 4 0 0) : Lx t (K + 1) 0 0 0 := fun ⟨k, r, a, s⟩ h1 h2 => by
 have h3 := h ⟨k, r, a, s⟩ h1 h2; have := cRight_rng h1; simp only at h3 ⊢; omega
theorem lx_end {t : List UInt8} (h : Lx t 6 0 0 0) : cOne t = none := by
 cases hc : cOne t with
 | none => rfl
 | some o =>
   obtain ⟨h1, h2⟩ := one_some hc; obtain ⟨k, r, a, s⟩ := o; have h3 := h ⟨k, r, a, s⟩ h1 h2; have := cRight_rng h1; simp only at h3; omega
theorem cWrites_take {l : List Oq} {i : Nat} (h : i < l.length) : cWrites (l.take (i + 1)) = cWrites (l.take i) + (if l[i].kind = 2 then 1 else 0) := by
 unfold cWrites; rw [List.take_succ_eq_append_getElem h, List.countP_append, List.countP_cons, List.countP_nil]; simp
theorem cFits_take {l : List Oq} {i : Nat} {p q : Int} (h : i < l.length) : ((l.take (i + 1)).all fun o => cRight o p q) = (((l.take i).all fun o => cRight o p q) && cRight l[i] p q) := by
 rw [List.take_succ_eq_append_getElem h, List.all_append]; simp
theorem rcFits_any (v : Value) (l : List Oq) (p q : Int) (w : World) (h : Oqs w v l) : Calls Tryz.prog 56 #[v, .int .i64 p, .int .i64 q] w fun e w' => e = .returned (.bool (cFits l p q)) ∧ Below w.heap.size w w' := by
 have HO := hide h; obtain ⟨A, m, rfl, hm1, hm2, -⟩ := id h; unfold maxLen at hm2; clear h; go_enter Tryz.func56, Tryz.ntmps56
 go_wp2; go_loopw [7] (fun iv wr => ∃ i : Nat, i ≤ l.length ∧ iv = .int .i64 i ∧ Below w.heap.size w wr ∧ Hid (((l.take i).all fun o => cRight o p q) = true)) (fun iv _ => l.length - (intOf iv).toNat)
 case atStart => exact ⟨0, Nat.zero_le _, rfl, Below.refl _ _, hide rfl⟩
 case round =>
  obtain ⟨i, hi, rfl, hb, HK⟩ := hrel; by_cases hlt : i < l.length
  · obtain ⟨⟨k, r, a, s⟩, hd⟩ : ∃ d : Oq, l[i] = d := ⟨_, rfl⟩
    obtain ⟨g, off, rfl, -, d0, d1, d2, d3⟩ := oq_at (HO.out.below hb) hlt hd; have HT := hide (cFits_take (p := p) (q := q) hlt); rw [hd] at HT; cases hr : cRight ⟨k, r, a, s⟩ p q
    · have HR := hide hr
      have HF := hide (show cFits l p q = false by unfold cFits; rw [Bool.and_eq_false_iff]; left; rw [Bool.eq_false_iff]; intro h; rw [List.all_eq_true] at h; have := h _ (List.getElem_mem hlt); rw [hd, hr] at this; cases this); clear hr hd; go_wp2_with fail
      (with_reducible refine (rcRight_any k r a s p q _).mono ?_); rintro e w2 ⟨rfl, hb2⟩; rw [HR.out]; have hb := bcall hb hb2; go_wp2; go_ret
      exact ⟨ret_bool HF.out.symm, hb⟩
    · have HR := hide hr
      have HK2 := hide (show ((l.take (i + 1)).all fun o => cRight o p q) = true by rw [HT.out, HK.out, hr]; rfl); clear hr hd; go_wp2_with fail
      (with_reducible refine (rcRight_any k r a s p q _).mono ?_); rintro e w2 ⟨rfl, hb2⟩; rw [HR.out]; have hb := bcall hb hb2; go_wp2; go_roundw
      case rel => exact ⟨i + 1, by omega, by go_num, hb, HK2⟩
      case measure => simp [intOf]; omega
  · have HF := hide (show cFits l p q = decide (l.length ≤ 64) by have h := HK.out; rw [List.take_of_length_le (by omega)] at h; unfold cFits; rw [h]; rfl)
    by_cases h64 : l.length ≤ 64
    · have EF := hide (show cFits l p q = true by rw [HF.out]; exact decide_eq_true h64)
      go_wp2; go_ret
      exact ⟨ret_bool (by first | exact EF.out.symm | (rw [EF.out]; exact decide_eq_true (by omega))), hb⟩
    · have EF := hide (show cFits l p q = false by rw [HF.out]; exact decide_eq_false h64)
      go_wp2; go_ret
      exact ⟨ret_bool (by first | exact EF.out.symm | (rw [EF.out]; exact decide_eq_false (by omega))), hb⟩
theorem rcWrites_any (v : Value) (l : List Oq) (w : World) (h : Oqs w v l) : Calls Tryz.prog 63 #[v] w fun e w' => e = .returned (.int .i64 (cWrites l : Nat)) ∧ w' = w := by
 have HO := hide h; obtain ⟨A, m, rfl, hm1, hm2, -⟩ := id h; unfold maxLen at hm2; clear h; go_enter Tryz.func63, Tryz.ntmps63
 go_wp2; go_loopw [3, 4] (fun nv iv wr => ∃ i : Nat, i ≤ l.length ∧ iv = .int .i64 i ∧ nv = .int .i64 (cWrites (l.take i) : Nat) ∧ cWrites (l.take i) ≤ i ∧ wr = w) (fun _ iv _ => l.length - (intOf iv).toNat)
 case atStart => exact ⟨0, Nat.zero_le _, rfl, rfl, Nat.zero_le _, rfl⟩
 case round =>
  obtain ⟨i, hi, rfl, rfl, hle, rfl⟩ := hrel; by_cases hlt : i < l.length
  · obtain ⟨⟨k, r, a, s⟩, hd⟩ : ∃ d : Oq, l[i] = d := ⟨_, rfl⟩
    obtain ⟨g, off, rfl, -, d0, d1, d2, d3⟩ := oq_at HO.out hlt hd; have hT := cWrites_take hlt; rw [hd] at hT; simp only at hT
    obtain ⟨n, hn⟩ : ∃ n, cWrites (l.take i) = n := ⟨_, rfl⟩; rw [hn] at hT hle ⊢; by_cases hk : k = 2
    · rw [if_pos hk] at hT
      have HT := hide hT; have qk : (k == 2) = true := by simp [hk]
      clear hk hT hd hn; go_wp2; go_roundw
      case rel => exact ⟨i + 1, by omega, by go_num, by rw [HT.out]; go_num, by rw [HT.out]; omega, by first | rfl | trivial⟩
      case measure => simp [intOf]; omega
    · rw [if_neg hk] at hT
      have HT := hide hT; have qk : (k == 2) = false := by simp [hk]
      clear hk hT hd hn; go_wp2; go_roundw
      case rel => exact ⟨i + 1, by omega, by go_num, by rw [HT.out]; go_num, by rw [HT.out]; omega, by first | rfl | trivial⟩
      case measure => simp [intOf]; omega
  · have HF := hide (show l.take i = l from List.take_of_length_le (by omega))
    go_wp2; go_ret
    exact ⟨ret_int (by rw [HF.out]), rfl⟩
def cReg (n regs : Int) : Bool := decide (0 ≤ n ∧ n < min regs 4)
theorem cRight_reg (k r a s regs slots : Int) : cRight ⟨k, r, a, s⟩ regs slots = (cReg r regs && (if k = 1 ∨ k = 2 then cReg a regs && cReg s slots else if k = 4 then cReg a regs && decide (s = 0) else if k = 3 ∨ k = 5 then decide (a = 0) && decide (s = 0) else false)) := by
 unfold cRight cReg; rw [Bool.eq_iff_iff]; by_cases h1 : k = 1 ∨ k = 2
 · simp only [h1, if_true, Bool.and_eq_true, decide_eq_true_eq]; omega
 · by_cases h2 : k = 4
   · subst h2
     have e1 : ¬ ((4 : Int) = 1 ∨ (4 : Int) = 2) := by omega
     have e2 : ¬ ((4 : Int) = 3 ∨ (4 : Int) = 5) := by omega
     simp only [e1, e2, if_false, if_true, Bool.and_eq_true, decide_eq_true_eq]; omega
   · by_cases h3 : k = 3 ∨ k = 5
     · simp only [h1, h2, h3, if_true, if_false, Bool.and_eq_true, decide_eq_true_eq]; omega
     · simp only [h1, h2, h3, if_false, Bool.and_false]
theorem isReg_any (n m : Int) (w : World) : Calls Tryz.prog 166 #[.int .i64 n, .int .i64 m] w fun e w' => e = .returned (.bool (cReg n m)) ∧ w' = w := by
 obtain ⟨q, hq⟩ : ∃ q, min m 4 = q := ⟨_, rfl⟩; have hm : (if (4 : Int) < m then 4 else m) = q := by rw [← hq]; split <;> omega
 by_cases h : 0 ≤ n <;> by_cases k : n < q
 all_goals
  have HF := hide (show cReg n m = decide (0 ≤ n ∧ n < q) by unfold cReg; rw [hq]); clear hq; go_enter Tryz.func166, Tryz.ntmps166
  go_wp2; go_ret
  exact ⟨ret_bool (by rw [HF.out]; simp [h, k]), rfl⟩
theorem isSlot_any (n m : Int) (w : World) : Calls Tryz.prog 167 #[.int .i64 n, .int .i64 m] w fun e w' => e = .returned (.bool (cReg n m)) ∧ w' = w := by
 obtain ⟨q, hq⟩ : ∃ q, min m 4 = q := ⟨_, rfl⟩; have hm : (if (4 : Int) < m then 4 else m) = q := by rw [← hq]; split <;> omega
 by_cases h : 0 ≤ n <;> by_cases k : n < q
 all_goals
  have HF := hide (show cReg n m = decide (0 ≤ n ∧ n < q) by unfold cReg; rw [hq]); clear hq; go_enter Tryz.func167, Tryz.ntmps167
  go_wp2; go_ret
  exact ⟨ret_bool (by rw [HF.out]; simp [h, k]), rfl⟩
theorem Right_anyCd (k r a s regs slots : Int) (w : World) : Calls Tryz.prog 130 #[qv k r a s, .int .i64 regs, .int .i64 slots] w fun e w' => e = .returned (.bool (cRight ⟨k, r, a, s⟩ regs slots)) ∧ Below w.heap.size w w' := by
 cases hr : cReg r regs
 · have HR := hide hr
   have EF := hide (show cRight ⟨k, r, a, s⟩ regs slots = false by rw [cRight_reg]; simp [hr]); clear hr; obtain ⟨w1, e1, hb1, hs1, X⟩ := b4_new w (.int .i64 k) (.int .i64 r) (.int .i64 a) (.int .i64 s) 96; have HE1 := hide e1; obtain ⟨X0, X1, X2, X3⟩ := X.all; clear e1 X; go_enter Tryz.func130, Tryz.ntmps130
   go_upto_region 1 with (fail)
   rw [HE1.out]; go_wp2_with fail
   (with_reducible refine (isReg_any r regs _).mono ?_); rintro e _ ⟨rfl, rfl⟩; rw [HR.out]; go_wp2; go_ret
   exact ⟨ret_bool (by rw [EF.out]), hb1⟩
 · have HR := hide hr
   by_cases k1 : k = 1
   · subst k1
     cases ha : cReg a regs
     · have HA := hide ha
       have EF := hide (show cRight ⟨1, r, a, s⟩ regs slots = false by rw [cRight_reg]; simp [hr, ha]); clear hr ha; obtain ⟨w1, e1, hb1, hs1, X⟩ := b4_new w (.int .i64 1) (.int .i64 r) (.int .i64 a) (.int .i64 s) 96; have HE1 := hide e1; obtain ⟨X0, X1, X2, X3⟩ := X.all; clear e1 X; go_enter Tryz.func130, Tryz.ntmps130
       go_upto_region 1 with (fail)
       rw [HE1.out]; go_wp2_with fail
       (with_reducible refine (isReg_any r regs _).mono ?_); rintro e _ ⟨rfl, rfl⟩; rw [HR.out]; go_wp2_with fail
       (with_reducible refine (isReg_any a regs _).mono ?_); rintro e _ ⟨rfl, rfl⟩; rw [HA.out]; go_wp2; go_ret
       exact ⟨ret_bool (by rw [EF.out]), hb1⟩
     · cases hs : cReg s slots
       · have HA := hide ha
         have HS := hide hs; have EF := hide (show cRight ⟨1, r, a, s⟩ regs slots = false by rw [cRight_reg]; simp [hr, ha, hs]); clear hr ha hs; obtain ⟨w1, e1, hb1, hs1, X⟩ := b4_new w (.int .i64 1) (.int .i64 r) (.int .i64 a) (.int .i64 s) 96; have HE1 := hide e1; obtain ⟨X0, X1, X2, X3⟩ := X.all; clear e1 X; go_enter Tryz.func130, Tryz.ntmps130
         go_upto_region 1 with (fail)
         rw [HE1.out]; go_wp2_with fail
         (with_reducible refine (isReg_any r regs _).mono ?_); rintro e _ ⟨rfl, rfl⟩; rw [HR.out]; go_wp2_with fail
         (with_reducible refine (isReg_any a regs _).mono ?_); rintro e _ ⟨rfl, rfl⟩; rw [HA.out]; go_wp2_with fail
         (with_reducible refine (isSlot_any s slots _).mono ?_); rintro e _ ⟨rfl, rfl⟩; rw [HS.out]; go_wp2; go_ret
         exact ⟨ret_bool (by rw [EF.out]), hb1⟩
       · have HA := hide ha
         have HS := hide hs; have EF := hide (show cRight ⟨1, r, a, s⟩ regs slots = true by rw [cRight_reg]; simp [hr, ha, hs]); clear hr ha hs; obtain ⟨w1, e1, hb1, hs1, X⟩ := b4_new w (.int .i64 1) (.int .i64 r) (.int .i64 a) (.int .i64 s) 96; have HE1 := hide e1; obtain ⟨X0, X1, X2, X3⟩ := X.all; clear e1 X; go_enter Tryz.func130, Tryz.ntmps130
         go_upto_region 1 with (fail)
         rw [HE1.out]; go_wp2_with fail
         (with_reducible refine (isReg_any r regs _).mono ?_); rintro e _ ⟨rfl, rfl⟩; rw [HR.out]; go_wp2_with fail
         (with_reducible refine (isReg_any a regs _).mono ?_); rintro e _ ⟨rfl, rfl⟩; rw [HA.out]; go_wp2_with fail
         (with_reducible refine (isSlot_any s slots _).mono ?_); rintro e _ ⟨rfl, rfl⟩; rw [HS.out]; go_wp2; go_ret
         exact ⟨ret_bool (by rw [EF.out]), hb1⟩
   · skip
     by_cases k2 : k = 2
     · subst k2
       cases ha : cReg a regs
       · have HA := hide ha
         have EF := hide (show cRight ⟨2, r, a, s⟩ regs slots = false by rw [cRight_reg]; simp [hr, ha]); clear hr ha; obtain ⟨w1, e1, hb1, hs1, X⟩ := b4_new w (.int .i64 2) (.int .i64 r) (.int .i64 a) (.int .i64 s) 96; have HE1 := hide e1; obtain ⟨X0, X1, X2, X3⟩ := X.all; clear e1 X; go_enter Tryz.func130, Tryz.ntmps130
         go_upto_region 1 with (fail)
         rw [HE1.out]; go_wp2_with fail
         (with_reducible refine (isReg_any r regs _).mono ?_); rintro e _ ⟨rfl, rfl⟩; rw [HR.out]; go_wp2_with fail
         (with_reducible refine (isReg_any a regs _).mono ?_); rintro e _ ⟨rfl, rfl⟩; rw [HA.out]; go_wp2; go_ret
         exact ⟨ret_bool (by rw [EF.out]), hb1⟩
       · cases hs : cReg s slots
         · have HA := hide ha
           have HS := hide hs; have EF := hide (show cRight ⟨2, r, a, s⟩ regs slots = false by rw [cRight_reg]; simp [hr, ha, hs]); clear hr ha hs; obtain ⟨w1, e1, hb1, hs1, X⟩ := b4_new w (.int .i64 2) (.int .i64 r) (.int .i64 a) (.int .i64 s) 96; have HE1 := hide e1; obtain ⟨X0, X1, X2, X3⟩ := X.all; clear e1 X; go_enter Tryz.func130, Tryz.ntmps130
           go_upto_region 1 with (fail)
           rw [HE1.out]; go_wp2_with fail
           (with_reducible refine (isReg_any r regs _).mono ?_); rintro e _ ⟨rfl, rfl⟩; rw [HR.out]; go_wp2_with fail
           (with_reducible refine (isReg_any a regs _).mono ?_); rintro e _ ⟨rfl, rfl⟩; rw [HA.out]; go_wp2_with fail
           (with_reducible refine (isSlot_any s slots _).mono ?_); rintro e _ ⟨rfl, rfl⟩; rw [HS.out]; go_wp2; go_ret
           exact ⟨ret_bool (by rw [EF.out]), hb1⟩
         · have HA := hide ha
           have HS := hide hs; have EF := hide (show cRight ⟨2, r, a, s⟩ regs slots = true by rw [cRight_reg]; simp [hr, ha, hs]); clear hr ha hs; obtain ⟨w1, e1, hb1, hs1, X⟩ := b4_new w (.int .i64 2) (.int .i64 r) (.int .i64 a) (.int .i64 s) 96; have HE1 := hide e1; obtain ⟨X0, X1, X2, X3⟩ := X.all; clear e1 X; go_enter Tryz.func130, Tryz.ntmps130
           go_upto_region 1 with (fail)
           rw [HE1.out]; go_wp2_with fail
           (with_reducible refine (isReg_any r regs _).mono ?_); rintro e _ ⟨rfl, rfl⟩; rw [HR.out]; go_wp2_with fail
           (with_reducible refine (isReg_any a regs _).mono ?_); rintro e _ ⟨rfl, rfl⟩; rw [HA.out]; go_wp2_with fail
           (with_reducible refine (isSlot_any s slots _).mono ?_); rintro e _ ⟨rfl, rfl⟩; rw [HS.out]; go_wp2; go_ret
           exact ⟨ret_bool (by rw [EF.out]), hb1⟩
     · skip
       by_cases k3 : k = 3
       · subst k3
         by_cases ga : a = 0
         · by_cases gs : s = 0
           · have qa : (a == 0) = true := by simp [ga]
             have qs : (s == 0) = true := by simp [gs]
             have EF := hide (show cRight ⟨3, r, a, s⟩ regs slots = true by rw [cRight_reg]; simp [hr, ga, gs]); clear hr ga gs; obtain ⟨w1, e1, hb1, hs1, X⟩ := b4_new w (.int .i64 3) (.int .i64 r) (.int .i64 a) (.int .i64 s) 96; have HE1 := hide e1; obtain ⟨X0, X1, X2, X3⟩ := X.all; clear e1 X; go_enter Tryz.func130, Tryz.ntmps130
             go_upto_region 1 with (fail)
             rw [HE1.out]; go_wp2_with fail
             (with_reducible refine (isReg_any r regs _).mono ?_); rintro e _ ⟨rfl, rfl⟩; rw [HR.out]; go_wp2; go_ret
             exact ⟨ret_bool (by rw [EF.out]), hb1⟩
           · have qa : (a == 0) = true := by simp [ga]
             have qs : (s == 0) = false := by simp [gs]
             have EF := hide (show cRight ⟨3, r, a, s⟩ regs slots = false by rw [cRight_reg]; simp [hr, ga, gs]); clear hr ga gs; obtain ⟨w1, e1, hb1, hs1, X⟩ := b4_new w (.int .i64 3) (.int .i64 r) (.int .i64 a) (.int .i64 s) 96; have HE1 := hide e1; obtain ⟨X0, X1, X2, X3⟩ := X.all; clear e1 X; go_enter Tryz.func130, Tryz.ntmps130
             go_upto_region 1 with (fail)
             rw [HE1.out]; go_wp2_with fail
             (with_reducible refine (isReg_any r regs _).mono ?_); rintro e _ ⟨rfl, rfl⟩; rw [HR.out]; go_wp2; go_ret
             exact ⟨ret_bool (by rw [EF.out]), hb1⟩
         · have qa : (a == 0) = false := by simp [ga]
           have EF := hide (show cRight ⟨3, r, a, s⟩ regs slots = false by rw [cRight_reg]; simp [hr, ga]); clear hr ga; obtain ⟨w1, e1, hb1, hs1, X⟩ := b4_new w (.int .i64 3) (.int .i64 r) (.int .i64 a) (.int .i64 s) 96; have HE1 := hide e1; obtain ⟨X0, X1, X2, X3⟩ := X.all; clear e1 X; go_enter Tryz.func130, Tryz.ntmps130
           go_upto_region 1 with (fail)
           rw [HE1.out]; go_wp2_with fail
           (with_reducible refine (isReg_any r regs _).mono ?_); rintro e _ ⟨rfl, rfl⟩; rw [HR.out]; go_wp2; go_ret
           exact ⟨ret_bool (by rw [EF.out]), hb1⟩
       · skip
         by_cases k4 : k = 4
         · subst k4
           cases ha : cReg a regs
           · have HA := hide ha
             have EF := hide (show cRight ⟨4, r, a, s⟩ regs slots = false by rw [cRight_reg]; simp [hr, ha]); clear hr ha; obtain ⟨w1, e1, hb1, hs1, X⟩ := b4_new w (.int .i64 4) (.int .i64 r) (.int .i64 a) (.int .i64 s) 96; have HE1 := hide e1; obtain ⟨X0, X1, X2, X3⟩ := X.all; clear e1 X; go_enter Tryz.func130, Tryz.ntmps130
             go_upto_region 1 with (fail)
             rw [HE1.out]; go_wp2_with fail
             (with_reducible refine (isReg_any r regs _).mono ?_); rintro e _ ⟨rfl, rfl⟩; rw [HR.out]; go_wp2_with fail
             (with_reducible refine (isReg_any a regs _).mono ?_); rintro e _ ⟨rfl, rfl⟩; rw [HA.out]; go_wp2; go_ret
             exact ⟨ret_bool (by rw [EF.out]), hb1⟩
           · by_cases g : s = 0
             · have HA := hide ha
               have qg : (s == 0) = true := by simp [g]
               have EF := hide (show cRight ⟨4, r, a, s⟩ regs slots = true by rw [cRight_reg]; simp [hr, ha, g]); clear hr ha g; obtain ⟨w1, e1, hb1, hs1, X⟩ := b4_new w (.int .i64 4) (.int .i64 r) (.int .i64 a) (.int .i64 s) 96; have HE1 := hide e1; obtain ⟨X0, X1, X2, X3⟩ := X.all; clear e1 X; go_enter Tryz.func130, Tryz.ntmps130
               go_upto_region 1 with (fail)
               rw [HE1.out]; go_wp2_with fail
               (with_reducible refine (isReg_any r regs _).mono ?_); rintro e _ ⟨rfl, rfl⟩; rw [HR.out]; go_wp2_with fail
               (with_reducible refine (isReg_any a regs _).mono ?_); rintro e _ ⟨rfl, rfl⟩; rw [HA.out]; go_wp2; go_ret
               exact ⟨ret_bool (by rw [EF.out]), hb1⟩
             · have HA := hide ha
               have qg : (s == 0) = false := by simp [g]
               have EF := hide (show cRight ⟨4, r, a, s⟩ regs slots = false by rw [cRight_reg]; simp [hr, ha, g]); clear hr ha g; obtain ⟨w1, e1, hb1, hs1, X⟩ := b4_new w (.int .i64 4) (.int .i64 r) (.int .i64 a) (.int .i64 s) 96; have HE1 := hide e1; obtain ⟨X0, X1, X2, X3⟩ := X.all; clear e1 X; go_enter Tryz.func130, Tryz.ntmps130
               go_upto_region 1 with (fail)
               rw [HE1.out]; go_wp2_with fail
               (with_reducible refine (isReg_any r regs _).mono ?_); rintro e _ ⟨rfl, rfl⟩; rw [HR.out]; go_wp2_with fail
               (with_reducible refine (isReg_any a regs _).mono ?_); rintro e _ ⟨rfl, rfl⟩; rw [HA.out]; go_wp2; go_ret
               exact ⟨ret_bool (by rw [EF.out]), hb1⟩
         · skip
           by_cases k5 : k = 5
           · subst k5
             by_cases ga : a = 0
             · by_cases gs : s = 0
               · have qa : (a == 0) = true := by simp [ga]
                 have qs : (s == 0) = true := by simp [gs]
                 have EF := hide (show cRight ⟨5, r, a, s⟩ regs slots = true by rw [cRight_reg]; simp [hr, ga, gs]); clear hr ga gs; obtain ⟨w1, e1, hb1, hs1, X⟩ := b4_new w (.int .i64 5) (.int .i64 r) (.int .i64 a) (.int .i64 s) 96; have HE1 := hide e1; obtain ⟨X0, X1, X2, X3⟩ := X.all; clear e1 X; go_enter Tryz.func130, Tryz.ntmps130
                 go_upto_region 1 with (fail)
                 rw [HE1.out]; go_wp2_with fail
                 (with_reducible refine (isReg_any r regs _).mono ?_); rintro e _ ⟨rfl, rfl⟩; rw [HR.out]; go_wp2; go_ret
                 exact ⟨ret_bool (by rw [EF.out]), hb1⟩
               · have qa : (a == 0) = true := by simp [ga]
                 have qs : (s == 0) = false := by simp [gs]
                 have EF := hide (show cRight ⟨5, r, a, s⟩ regs slots = false by rw [cRight_reg]; simp [hr, ga, gs]); clear hr ga gs; obtain ⟨w1, e1, hb1, hs1, X⟩ := b4_new w (.int .i64 5) (.int .i64 r) (.int .i64 a) (.int .i64 s) 96; have HE1 := hide e1; obtain ⟨X0, X1, X2, X3⟩ := X.all; clear e1 X; go_enter Tryz.func130, Tryz.ntmps130
                 go_upto_region 1 with (fail)
                 rw [HE1.out]; go_wp2_with fail
                 (with_reducible refine (isReg_any r regs _).mono ?_); rintro e _ ⟨rfl, rfl⟩; rw [HR.out]; go_wp2; go_ret
                 exact ⟨ret_bool (by rw [EF.out]), hb1⟩
             · have qa : (a == 0) = false := by simp [ga]
               have EF := hide (show cRight ⟨5, r, a, s⟩ regs slots = false by rw [cRight_reg]; simp [hr, ga]); clear hr ga; obtain ⟨w1, e1, hb1, hs1, X⟩ := b4_new w (.int .i64 5) (.int .i64 r) (.int .i64 a) (.int .i64 s) 96; have HE1 := hide e1; obtain ⟨X0, X1, X2, X3⟩ := X.all; clear e1 X; go_enter Tryz.func130, Tryz.ntmps130
               go_upto_region 1 with (fail)
               rw [HE1.out]; go_wp2_with fail
               (with_reducible refine (isReg_any r regs _).mono ?_); rintro e _ ⟨rfl, rfl⟩; rw [HR.out]; go_wp2; go_ret
               exact ⟨ret_bool (by rw [EF.out]), hb1⟩
           · skip
             have q1 : (k == 1) = false := by simp [k1]
             have q2 : (k == 2) = false := by simp [k2]
             have q3 : (k == 3) = false := by simp [k3]
             have q4 : (k == 4) = false := by simp [k4]
             have q5 : (k == 5) = false := by simp [k5]
             have EF := hide (show cRight ⟨k, r, a, s⟩ regs slots = false by rw [cRight_reg]; simp [hr, k1, k2, k3, k4, k5]); clear hr k1 k2 k3 k4 k5; obtain ⟨w1, e1, hb1, hs1, X⟩ := b4_new w (.int .i64 k) (.int .i64 r) (.int .i64 a) (.int .i64 s) 96; have HE1 := hide e1; obtain ⟨X0, X1, X2, X3⟩ := X.all; clear e1 X; go_enter Tryz.func130, Tryz.ntmps130
             go_upto_region 1 with (fail)
             rw [HE1.out]; go_wp2_with fail
             (with_reducible refine (isReg_any r regs _).mono ?_); rintro e _ ⟨rfl, rfl⟩; rw [HR.out]; go_wp2; go_ret
             exact ⟨ret_bool (by rw [EF.out]), hb1⟩
theorem Fits_any (v : Value) (l : List Oq) (p q : Int) (w : World) (h : Oqs w v l) : Calls Tryz.prog 86 #[v, .int .i64 p, .int .i64 q] w fun e w' => e = .returned (.bool (cFits l p q)) ∧ Below w.heap.size w w' := by
 have HO := hide h; obtain ⟨A, m, rfl, hm1, hm2, -⟩ := id h; unfold maxLen at hm2; clear h; by_cases h64 : 64 < l.length
 · have HF := hide (show cFits l p q = false by unfold cFits; rw [Bool.and_eq_false_iff]; right; exact decide_eq_false (by omega))
   have h64i : (64 : Int) < (l.length : Int) := by omega
   clear h64; go_enter Tryz.func86, Tryz.ntmps86
   go_wp2; go_ret
   exact ⟨ret_bool HF.out.symm, Below.refl _ _⟩
 · have h64i : ¬ (64 : Int) < (l.length : Int) := by omega
   have H64 := hide (show l.length ≤ 64 by omega); clear h64; go_enter Tryz.func86, Tryz.ntmps86
   go_wp2; go_loopw [14] (fun iv wr => ∃ i : Nat, i ≤ l.length ∧ iv = .int .i64 i ∧ Below w.heap.size w wr ∧ Hid (((l.take i).all fun o => cRight o p q) = true)) (fun iv _ => l.length - (intOf iv).toNat)
   case atStart => exact ⟨0, Nat.zero_le _, rfl, Below.refl _ _, hide rfl⟩
   case round =>
    obtain ⟨i, hi, rfl, hb, HK⟩ := hrel; by_cases hlt : i < l.length
    · obtain ⟨⟨k, r, a, s⟩, hd⟩ : ∃ d : Oq, l[i] = d := ⟨_, rfl⟩
      obtain ⟨g, off, rfl, -, d0, d1, d2, d3⟩ := oq_at (HO.out.below hb) hlt hd; have HT := hide (cFits_take (p := p) (q := q) hlt); rw [hd] at HT; obtain ⟨w1, e1, hb1, hs1, X⟩ := b4_new wr (.int .i64 k) (.int .i64 r) (.int .i64 a) (.int .i64 s) 96; have HE1 := hide e1; obtain ⟨X0, X1, X2, X3⟩ := X.all; have hbB := bcall hb hb1; clear e1 X; cases hr : cRight ⟨k, r, a, s⟩ p q
      · have HR := hide hr
        have HF := hide (show cFits l p q = false by unfold cFits; rw [Bool.and_eq_false_iff]; left; rw [Bool.eq_false_iff]; intro h; rw [List.all_eq_true] at h; have := h _ (List.getElem_mem hlt); rw [hd, hr] at this; cases this); clear hr hd; go_upto_region 6 with (fail)
        rw [HE1.out]; go_wp2_with fail
        (with_reducible refine (Right_anyCd k r a s p q _).mono ?_); rintro e w2 ⟨rfl, hb2⟩; rw [HR.out]; have hb := bcall hbB hb2; go_wp2; go_ret
        exact ⟨ret_bool HF.out.symm, hb⟩
      · have HR := hide hr
        have HK2 := hide (show ((l.take (i + 1)).all fun o => cRight o p q) = true by rw [HT.out, HK.out, hr]; rfl); clear hr hd; go_upto_region 6 with (fail)
        rw [HE1.out]; go_wp2_with fail
        (with_reducible refine (Right_anyCd k r a s p q _).mono ?_); rintro e w2 ⟨rfl, hb2⟩; rw [HR.out]; have hb := bcall hbB hb2; go_wp2; go_roundw
        case rel => exact ⟨i + 1, by omega, by go_num, hb, HK2⟩
        case measure => simp [intOf]; omega
    · have HF := hide (show cFits l p q = true by have h := HK.out; rw [List.take_of_length_le (by omega)] at h; unfold cFits; rw [h]; exact decide_eq_true H64.out)
      go_wp2; go_ret
      exact ⟨ret_bool HF.out.symm, hb⟩
theorem Writes_any (v : Value) (l : List Oq) (w : World) (h : Oqs w v l) : Calls Tryz.prog 62 #[v] w fun e w' => e = .returned (.int .i64 (cWrites l : Nat)) ∧ Below w.heap.size w w' := by
 have HO := hide h; obtain ⟨A, m, rfl, hm1, hm2, -⟩ := id h; unfold maxLen at hm2; clear h; go_enter Tryz.func62, Tryz.ntmps62
 go_wp2; go_loopw [3, 8] (fun nv iv wr => ∃ i : Nat, i ≤ l.length ∧ iv = .int .i64 i ∧ nv = .int .i64 (cWrites (l.take i) : Nat) ∧ cWrites (l.take i) ≤ i ∧ Below w.heap.size w wr) (fun _ iv _ => l.length - (intOf iv).toNat)
 case atStart => exact ⟨0, Nat.zero_le _, rfl, rfl, Nat.zero_le _, Below.refl _ _⟩
 case round =>
  obtain ⟨i, hi, rfl, rfl, hle, hb⟩ := hrel; by_cases hlt : i < l.length
  · obtain ⟨⟨k, r, a, s⟩, hd⟩ : ∃ d : Oq, l[i] = d := ⟨_, rfl⟩
    obtain ⟨g, off, rfl, -, d0, d1, d2, d3⟩ := oq_at (HO.out.below hb) hlt hd; have hT := cWrites_take hlt; rw [hd] at hT; simp only at hT
    obtain ⟨w1, e1, hb1, hs1, X⟩ := b4_new wr (.int .i64 k) (.int .i64 r) (.int .i64 a) (.int .i64 s) 96; have HE1 := hide e1; obtain ⟨X0, X1, X2, X3⟩ := X.all; have hbB := bcall hb hb1; clear e1 X; obtain ⟨n, hn⟩ : ∃ n, cWrites (l.take i) = n := ⟨_, rfl⟩; rw [hn] at hT hle ⊢; by_cases hk : k = 2
    · rw [if_pos hk] at hT
      have HT := hide hT; have qk : (k == 2) = true := by simp [hk]
      clear hk hT hd hn; go_upto_region 5 with (fail)
      rw [HE1.out]; go_wp2; go_roundw
      case rel => exact ⟨i + 1, by omega, by go_num, by rw [HT.out]; go_num, by rw [HT.out]; omega, hbB⟩
      case measure => simp [intOf]; omega
    · rw [if_neg hk] at hT
      have HT := hide hT; have qk : (k == 2) = false := by simp [hk]
      clear hk hT hd hn; go_upto_region 5 with (fail)
      rw [HE1.out]; go_wp2; go_roundw
      case rel => exact ⟨i + 1, by omega, by go_num, by rw [HT.out]; go_num, by rw [HT.out]; omega, hbB⟩
      case measure => simp [intOf]; omega
  · have HF := hide (show l.take i = l from List.take_of_length_le (by omega))
    go_wp2; go_ret
    exact ⟨ret_int (by rw [HF.out]), hb⟩
def oneV : Option Oq → Value
 | some o => .tuple #[qv o.kind o.r o.a o.s, .bool true]
 | none => .tuple #[qv 0 0 0 0, .bool false]
theorem cone_yes {o : Oq} {t : List UInt8} (h : cRight o 4 4 = true) (e : cText o = t) : cOne t = some o := by subst e; exact one_text h
theorem ba_eq {l : List UInt8} {s : ByteArray} : ((⟨l.toArray⟩ : ByteArray) = s) ↔ l = s.data.toList := by
 constructor
 · rintro rfl; simp
 · intro h
   apply ByteArray.ext
   rw [h]
theorem cbset {n : Nat} {a w : World} (h : Below n a w) (b o : Nat) (hb : n ≤ b) (v : Value) : Below n a (w.setCell ⟨b, o, none⟩ v) := h.setCell (p := ⟨b, o, none⟩) hb v
theorem rcOne_any (s : ByteArray) (w : World) : Calls Tryz.prog 127 #[.string s] w fun e w' => e = .returned (oneV (cOne s.data.toList)) ∧ Below w.heap.size w w' := by
 obtain ⟨t, ht⟩ : ∃ t, s.data.toList = t := ⟨_, rfl⟩; rw [ht]; have HT := hide ht; clear ht; obtain ⟨w1, e1, hb1, hs1, Y⟩ := b4_new w (.int .i64 0) (.int .i64 0) (.int .i64 0) (.int .i64 0) 81; have HE1 := hide e1; have Y := hide Y; clear e1; go_enter Tryz.func127, Tryz.ntmps127
 go_upto_region 1 with (fail)
 rw [HE1.out]; go_wp2; go_loopw [4] (fun iv wr => ∃ K : Nat, 1 ≤ K ∧ K ≤ 6 ∧ iv = .int .i64 K ∧ Below w1.heap.size w1 wr ∧ Hid (Lx t K 0 0 0)) (fun iv _ => 6 - (intOf iv).toNat)
 case atStart => exact ⟨1, by omega, by omega, rfl, Below.refl _ _, hide (lx_start t)⟩
 case round =>
  obtain ⟨K, hK0, hK, rfl, hb, HL⟩ := hrel; by_cases hltK : K ≤ 5
  · have dK : decide ((K : Int) ≤ 5) = true := by rw [decide_eq_true_eq]; omega
    go_wp2; go_loopw [5] (fun iv wr => ∃ R : Nat, R ≤ 4 ∧ iv = .int .i64 R ∧ Below w1.heap.size w1 wr ∧ Hid (Lx t K R 0 0)) (fun iv _ => 4 - (intOf iv).toNat)
    case atStart => exact ⟨0, Nat.zero_le _, rfl, hb, HL⟩
    case round =>
     obtain ⟨R, hR, rfl, hb, HL⟩ := hrel; by_cases hltR : R < 4
     · have dR : decide ((R : Int) < 4) = true := by rw [decide_eq_true_eq]; omega
       go_wp2; go_loopw [6] (fun iv wr => ∃ A : Nat, A ≤ 4 ∧ iv = .int .i64 A ∧ Below w1.heap.size w1 wr ∧ Hid (Lx t K R A 0)) (fun iv _ => 4 - (intOf iv).toNat)
       case atStart => exact ⟨0, Nat.zero_le _, rfl, hb, HL⟩
       case round =>
        obtain ⟨A, hA, rfl, hb, HL⟩ := hrel; by_cases hltA : A < 4
        · have dA : decide ((A : Int) < 4) = true := by rw [decide_eq_true_eq]; omega
          go_wp2; go_loopw [7] (fun iv wr => ∃ S : Nat, S ≤ 4 ∧ iv = .int .i64 S ∧ Below w1.heap.size w1 wr ∧ Hid (Lx t K R A S)) (fun iv _ => 4 - (intOf iv).toNat)
          case atStart => exact ⟨0, Nat.zero_le _, rfl, hb, HL⟩
          case round =>
           obtain ⟨S, hS, rfl, hb, HL⟩ := hrel; by_cases hlt : S < 4
           · obtain ⟨w2, e2, hb2, hs2, X⟩ := b4_new wr (.int .i64 K) (.int .i64 R) (.int .i64 A) (.int .i64 S) 81
             have HE2 := hide e2; have X := hide X; have hB2 := bcall hb hb2; clear e2; go_upto_region 14 with (fail)
             rw [HE2.out]; obtain ⟨X0, X1, X2, X3⟩ := X.out.all; cases hr : cRight ⟨K, R, A, S⟩ 4 4
             · have HR := hide hr
               have HN := hide (show Lx t K R A (S + 1 : Nat) from lx_next HL.out (by rw [hr]; simp)); clear hr; go_wp2_with fail
               (with_reducible refine (rcRight_any K R A S 4 4 _).mono ?_); rintro e w3 ⟨rfl, hb3⟩; rw [HR.out]; have hB3 := bcall hB2 hb3; clear X0 X1 X2 X3 hb3; go_wp2; go_roundw
               case rel => exact ⟨S + 1, by omega, by go_num, hB3, HN⟩
               case measure => simp [intOf]; omega
             · by_cases he : cText ⟨K, R, A, S⟩ = t
               · have HR := hide hr
                 have HF := hide (cone_yes hr he); have q1 : (cText ⟨K, R, A, S⟩ == s.toList) = true := by rw [beq_iff_eq, ByteArray.toList_eq]; exact he.trans HT.out.symm
                 have HQ := hide (show ((⟨(cText ⟨K, R, A, S⟩).toArray⟩ : ByteArray) = s) from ba_eq.2 (he.trans HT.out.symm)); clear hr he; go_wp2_with fail
                 (with_reducible refine (rcRight_any K R A S 4 4 _).mono ?_); rintro e w3 ⟨rfl, hb3⟩; rw [HR.out]; have X3_ := hide (X.out.below hb3); have hB3 := bcall hB2 hb3; clear X0 X1 X2 X3 hb3; obtain ⟨X0, X1, X2, X3⟩ := X3_.out.all; go_wp2_with fail
                 (with_reducible refine (rcText_any K R A S _).mono ?_); rintro e w4 ⟨rfl, hb4⟩; have X4_ := hide (X3_.out.below hb4); replace hB3 := bcall hB3 hb4; clear X0 X1 X2 X3 hb4; obtain ⟨X0, X1, X2, X3⟩ := X4_.out.all; obtain ⟨Y0, Y1, Y2, Y3⟩ := (Y.out.below hB3).all; obtain ⟨Y4, Y5, Y6, Y7⟩ := (Y.out.below hB3).free; go_wp2; refine bodyPost_ret (v := oneV (some ⟨K, R, A, S⟩)) (by simp [results, Tryz.results127, go_sem, Y0, Y1, Y2, Y3, oneV]) rfl ⟨by rw [HF.out], ?_⟩; have hBw := bcall hb1 hB3; repeat (first | (with_reducible exact hBw) | (with_reducible refine cbset ?_ _ _ (Nat.le_refl _) _))
               · have HR := hide hr
                 have HN := hide (show Lx t K R A (S + 1 : Nat) from lx_next HL.out (fun h => he h.2)); have q1 : (cText ⟨K, R, A, S⟩ == s.toList) = false := by rw [beq_eq_false_iff_ne, ByteArray.toList_eq]; intro h; exact he (h.trans HT.out)
                 clear hr he; go_wp2_with fail
                 (with_reducible refine (rcRight_any K R A S 4 4 _).mono ?_); rintro e w3 ⟨rfl, hb3⟩; rw [HR.out]; have X3_ := hide (X.out.below hb3); have hB3 := bcall hB2 hb3; clear X0 X1 X2 X3 hb3; obtain ⟨X0, X1, X2, X3⟩ := X3_.out.all; go_wp2_with fail
                 (with_reducible refine (rcText_any K R A S _).mono ?_); rintro e w4 ⟨rfl, hb4⟩; have X4_ := hide (X3_.out.below hb4); replace hB3 := bcall hB3 hb4; clear X0 X1 X2 X3 hb4; obtain ⟨X0, X1, X2, X3⟩ := X4_.out.all; go_wp2; go_roundw
                 case rel => exact ⟨S + 1, by omega, by go_num, hB3, HN⟩
                 case measure => simp [intOf]; omega
           · have hS4 : S = 4 := by omega
             subst hS4; have HN := hide (show Lx t K R (A + 1 : Nat) 0 from lx_a HL.out); go_wp2; go_roundw
             case rel => exact ⟨A + 1, by omega, by go_num, hb, HN⟩
             case measure => simp [intOf]; omega
        · have hA4 : A = 4 := by omega
          subst hA4; have HN := hide (show Lx t K (R + 1 : Nat) 0 0 from lx_r HL.out); go_wp2; go_roundw
          case rel => exact ⟨R + 1, by omega, by go_num, hb, HN⟩
          case measure => simp [intOf]; omega
     · have hR4 : R = 4 := by omega
       subst hR4; have HN := hide (show Lx t (K + 1 : Nat) 0 0 0 from lx_k HL.out); go_wp2; go_roundw
       case rel => exact ⟨K + 1, by omega, by omega, by go_num, hb, HN⟩
       case measure => simp [intOf]; omega
  · have hK6 : K = 6 := by omega
    subst hK6; have HF := hide (lx_end HL.out); obtain ⟨Y0, Y1, Y2, Y3⟩ := (Y.out.below hb).all; obtain ⟨Y4, Y5, Y6, Y7⟩ := (Y.out.below hb).free; go_wp2; refine bodyPost_ret (v := oneV none) (by simp [results, Tryz.results127, go_sem, Y0, Y1, Y2, Y3, oneV]) rfl ⟨by rw [HF.out], ?_⟩; have hBw := bcall hb1 hb; repeat (first | (with_reducible exact hBw) | (with_reducible refine cbset ?_ _ _ (Nat.le_refl _) _))
theorem joinS_snoc : ∀ (l : List (List UInt8)) (p : List UInt8), l ≠ [] → joinS (l ++ [p]) = joinS l ++ 59 :: p
 | [], _, h => absurd rfl h
 | [a], p, _ => rfl
 | a :: b :: l, p, _ => by
   have := joinS_snoc (b :: l) p (by simp); simp only [List.cons_append, joinS] at this ⊢; rw [this]; simp
theorem join_take {l : List Oq} {i : Nat} (h : i < l.length) : joinS ((l.take (i + 1)).map cText) = (if i = 0 then cText l[i] else joinS ((l.take i).map cText) ++ 59 :: cText l[i]) := by
 rw [List.take_succ_eq_append_getElem h, List.map_append]; by_cases h0 : i = 0
 · subst h0; rfl
 · rw [if_neg h0]
   exact joinS_snoc _ _ (by intro e; rw [List.map_eq_nil_iff, List.take_eq_nil_iff] at e; rcases e with e | e; exact h0 e; rw [e] at h; simp at h)
theorem cText_len (o : Oq) : (cText o).length ≤ 5 := by
 cases h : cRight o 4 4
 · rw [(text_no o).2 h]; simp
 · exact (all_text o (mem_all.2 h)).2.2.2.2
theorem join_len (l : List Oq) : ∀ i : Nat, i ≤ l.length → (joinS ((l.take i).map cText)).length ≤ 6 * i
 | 0, _ => by simp [joinS]
 | i + 1, h => by
   have h1 := join_len l i (by omega); have h2 := cText_len (l[i]'(by omega)); rw [join_take (by omega)]; split
   · omega
   · simp only [List.length_append, List.length_cons]; omega
theorem rcPrint_any (v : Value) (l : List Oq) (w : World) (h : Oqs w v l) (hbig : l.length * 32 ≤ 140737488351232) : Calls Tryz.prog 68 #[v] w fun e w' => e = .returned (.string ⟨(cPrint l).toArray⟩) ∧ Below w.heap.size w w' := by
 have HO := hide h; obtain ⟨A, m, rfl, hm1, hm2, -⟩ := id h; unfold maxLen at hm2; clear h; by_cases h0 : l = []
 · subst h0
   go_enter Tryz.func68, Tryz.ntmps68
   go_wp2; go_ret
   exact ⟨rfl, Below.refl _ _⟩
 · have H0 := hide h0
   have hl0 : ((l.length : Int) == 0) = false := by rw [beq_eq_false_iff_ne]; intro e; exact h0 (List.eq_nil_of_length_eq_zero (by omega))
   have hl1 : ¬ (l.length : Int) = 0 := by intro e; exact h0 (List.eq_nil_of_length_eq_zero (by omega))
   clear h0; go_enter Tryz.func68, Tryz.ntmps68
   go_wp2; go_loopw [3, 4] (fun sv iv wr => ∃ i : Nat, i ≤ l.length ∧ iv = .int .i64 i ∧ sv = .string ⟨(joinS ((l.take i).map cText)).toArray⟩ ∧ Below w.heap.size w wr) (fun _ iv _ => l.length - (intOf iv).toNat)
   case atStart => exact ⟨0, Nat.zero_le _, rfl, rfl, Below.refl _ _⟩
   case round =>
    obtain ⟨i, hi, rfl, rfl, hb⟩ := hrel; by_cases hlt : i < l.length
    · obtain ⟨⟨k, r, a, s⟩, hd⟩ : ∃ d : Oq, l[i] = d := ⟨_, rfl⟩
      obtain ⟨g, off, rfl, -, d0, d1, d2, d3⟩ := oq_at (HO.out.below hb) hlt hd; have hT := join_take hlt; rw [hd] at hT; have hTl := join_len l i (by omega); have hcl := cText_len ⟨k, r, a, s⟩; obtain ⟨T, hTT⟩ : ∃ T, joinS ((l.take i).map cText) = T := ⟨_, rfl⟩; rw [hTT] at hT hTl ⊢; by_cases hi0 : i = 0
      · rw [if_pos hi0] at hT
        have HTT := hide hT; have HT0 := hide (show T = [] by rw [← hTT, hi0]; rfl); have hii : ¬ 0 < i := by omega
        clear hT hd hTT hi0; go_wp2_with fail
        (with_reducible refine (rcText_any k r a s _).mono ?_); rintro e w2 ⟨rfl, hb2⟩; have hb3 := bcall hb hb2; go_wp2; go_roundw
        case rel => exact ⟨i + 1, by omega, by go_num, by rw [HTT.out, HT0.out]; congr 1, hb3⟩
        case measure => simp [intOf]; omega
      · rw [if_neg hi0] at hT
        have HTT := hide hT; have hii : 0 < i := by omega
        clear hT hd hTT hi0; go_wp2_with fail
        (with_reducible refine (rcText_any k r a s _).mono ?_); rintro e w2 ⟨rfl, hb2⟩; have hb3 := bcall hb hb2; go_wp2; go_roundw
        case rel => exact ⟨i + 1, by omega, by go_num, by rw [HTT.out]; congr 1; apply ByteArray.ext; simp [ByteArray.data_append], hb3⟩
        case measure => simp [intOf]; omega
    · have HF := hide (show cPrint l = joinS ((l.take i).map cText) by rw [List.take_of_length_le (by omega)]; unfold cPrint; rw [if_neg H0.out])
      go_wp2; go_ret
      exact ⟨cret (by rw [HF.out]), hb⟩
