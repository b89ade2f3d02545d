import Derived.Deep.Cut
import Derived.Deep.QuietTactic
import Derived.BigQuiet
import Derived.Laws.IdiomStrings
import Derived.Deep.RegionLaw
import Derived.Test.YtdmbcjckgfjcaaaGreatDoorRab
import Derived.Test.YtdmbcjckgfjcaaaGreatDoorRaa
import Derived.Test.YtdmbcjckgfjcaaaGreatDoorRab
/- Layer code: the document's Right, letter, Text. -/
namespace Go.Proofs.YtdmbcjckgfjcaaaGreatDoor
open Go.RowKit
abbrev qv (k r a s : Int) : Value := .agg #[.int .i64 k, .int .i64 r, .int .i64 a, .int .i64 s]
end Go.Proofs.YtdmbcjckgfjcaaaGreatDoor
/- Layer code: the document's Fits, Writes, one. -/
namespace Go.Proofs.YtdmbcjckgfjcaaaGreatDoor
open Go.RowKit
def oq (o : Oq) : List Value := [.int .i64 o.kind, .int .i64 o.r, .int .i64 o.a, .int .i64 o.s]
theorem oq_len (o : Oq) : (oq o).length = 4 := rfl
abbrev Oqs (w : World) (v : Value) (l : List Oq) : Prop := Sl oq 4 w v l
theorem oq_at {w : World} {A : Option Addr} {n c i : Nat} {l : List Oq} {k t a b : Int} (h : Oqs w (.slice A n c) l) (hi : i < l.length) (e : l[i] = ⟨k, t, a, b⟩) :
    ∃ g off, A = some ⟨g, off, none⟩ ∧ g < w.heap.size ∧ w.cell? ⟨g, off + i * 4, none⟩ = some (.int .i64 k) ∧ w.cell? ⟨g, off + i * 4 + 1, none⟩ = some (.int .i64 t) ∧ w.cell? ⟨g, off + i * 4 + 2, none⟩ = some (.int .i64 a) ∧ w.cell? ⟨g, off + i * 4 + 3, none⟩ = some (.int .i64 b) := by
  obtain ⟨A', c', e0, h1, h2, h3⟩ := h
  injection e0 with e1 e2 e3
  subst e1
  obtain ⟨g, off, rfl, hb, hc⟩ := h3 (by omega)
  have hd := List.getElem?_eq_getElem hi
  rw [e] at hd
  exact ⟨g, off, rfl, hb, hc i _ hd 0 _ rfl, hc i _ hd 1 _ rfl, hc i _ hd 2 _ rfl, hc i _ hd 3 _ rfl⟩
theorem cFits_take {l : List Oq} {i : Nat} {p q : Int} (h : i < l.length) : ((l.take (i + 1)).all fun o => cRight o p q) = (((l.take i).all fun o => cRight o p q) && cRight l[i] p q) := by
  rw [List.take_succ_eq_append_getElem h, List.all_append]; simp
end Go.Proofs.YtdmbcjckgfjcaaaGreatDoor
/- Layer code: isReg, isSlot, Right, Fits, Writes. -/
namespace Go.Proofs.YtdmbcjckgfjcaaaGreatDoor
open Go.RowKit
def cReg (n regs : Int) : Bool := decide (0 ≤ n ∧ n < min regs 4)
theorem cRight_reg (k r a s regs slots : Int) : cRight ⟨k, r, a, s⟩ regs slots = (cReg r regs && (if k = 1 ∨ k = 2 then cReg a regs && cReg s slots else if k = 4 then cReg a regs && decide (s = 0) else if k = 3 ∨ k = 5 then decide (a = 0) && decide (s = 0) else false)) := by
  unfold cRight cReg
  rw [Bool.eq_iff_iff]
  by_cases h1 : k = 1 ∨ k = 2
  · simp only [h1, if_true, Bool.and_eq_true, decide_eq_true_eq]; omega
  · by_cases h2 : k = 4
    · subst h2
      have e1 : ¬ ((4 : Int) = 1 ∨ (4 : Int) = 2) := by omega
      have e2 : ¬ ((4 : Int) = 3 ∨ (4 : Int) = 5) := by omega
      simp only [e1, e2, if_false, if_true, Bool.and_eq_true, decide_eq_true_eq]; omega
    · by_cases h3 : k = 3 ∨ k = 5
      · simp only [h1, h2, h3, if_true, if_false, Bool.and_eq_true, decide_eq_true_eq]; omega
      · simp only [h1, h2, h3, if_false, Bool.and_false]
theorem isReg_any (n m : Int) (w : World) : Calls Tryz.prog 178 #[.int .i64 n, .int .i64 m] w fun e w' => e = .returned (.bool (cReg n m)) ∧ w' = w := by
  obtain ⟨q, hq⟩ : ∃ q, min m 4 = q := ⟨_, rfl⟩
  have hm : (if (4 : Int) < m then 4 else m) = q := by rw [← hq]; split <;> omega
  by_cases h : 0 ≤ n <;> by_cases k : n < q
  all_goals
    have HF := hide (show cReg n m = decide (0 ≤ n ∧ n < q) by unfold cReg; rw [hq])
    clear hq
    go_enter Tryz.func178, Tryz.ntmps178
    go_wp2
    go_ret
    exact ⟨ret_bool (by rw [HF.out]; simp [h, k]), rfl⟩
theorem isSlot_any (n m : Int) (w : World) : Calls Tryz.prog 179 #[.int .i64 n, .int .i64 m] w fun e w' => e = .returned (.bool (cReg n m)) ∧ w' = w := by
  obtain ⟨q, hq⟩ : ∃ q, min m 4 = q := ⟨_, rfl⟩
  have hm : (if (4 : Int) < m then 4 else m) = q := by rw [← hq]; split <;> omega
  by_cases h : 0 ≤ n <;> by_cases k : n < q
  all_goals
    have HF := hide (show cReg n m = decide (0 ≤ n ∧ n < q) by unfold cReg; rw [hq])
    clear hq
    go_enter Tryz.func179, Tryz.ntmps179
    go_wp2
    go_ret
    exact ⟨ret_bool (by rw [HF.out]; simp [h, k]), rfl⟩
set_option maxRecDepth 100000 in
set_option maxHeartbeats 8000000 in
theorem Right_anyCd (k r a s regs slots : Int) (w : World) : Calls Tryz.prog 168 #[qv k r a s, .int .i64 regs, .int .i64 slots] w fun e w' => e = .returned (.bool (cRight ⟨k, r, a, s⟩ regs slots)) ∧ Below w.heap.size w w' := by
  cases hr : cReg r regs
  · have HR := hide hr
    have EF := hide (show cRight ⟨k, r, a, s⟩ regs slots = false by rw [cRight_reg]; simp [hr])
    clear hr
    obtain ⟨w1, e1, hb1, hs1, X⟩ := b4_new w (.int .i64 k) (.int .i64 r) (.int .i64 a) (.int .i64 s) 99
    have HE1 := hide e1
    obtain ⟨X0, X1, X2, X3⟩ := X.all
    clear e1 X
    go_enter Tryz.func168, Tryz.ntmps168
    go_upto_region 1 with (fail)
    rw [HE1.out]
    go_wp2_with fail
    (with_reducible refine (isReg_any r regs _).mono ?_)
    rintro e _ ⟨rfl, rfl⟩
    rw [HR.out]
    go_wp2
    go_ret
    exact ⟨ret_bool (by rw [EF.out]), hb1⟩
  · have HR := hide hr
    by_cases k1 : k = 1
    · subst k1
      cases ha : cReg a regs
      · have HA := hide ha
        have EF := hide (show cRight ⟨1, r, a, s⟩ regs slots = false by rw [cRight_reg]; simp [hr, ha])
        clear hr ha
        obtain ⟨w1, e1, hb1, hs1, X⟩ := b4_new w (.int .i64 1) (.int .i64 r) (.int .i64 a) (.int .i64 s) 99
        have HE1 := hide e1
        obtain ⟨X0, X1, X2, X3⟩ := X.all
        clear e1 X
        go_enter Tryz.func168, Tryz.ntmps168
        go_upto_region 1 with (fail)
        rw [HE1.out]
        go_wp2_with fail
        (with_reducible refine (isReg_any r regs _).mono ?_)
        rintro e _ ⟨rfl, rfl⟩
        rw [HR.out]
        go_wp2_with fail
        (with_reducible refine (isReg_any a regs _).mono ?_)
        rintro e _ ⟨rfl, rfl⟩
        rw [HA.out]
        go_wp2
        go_ret
        exact ⟨ret_bool (by rw [EF.out]), hb1⟩
      · cases hs : cReg s slots
        · have HA := hide ha
          have HS := hide hs
          have EF := hide (show cRight ⟨1, r, a, s⟩ regs slots = false by rw [cRight_reg]; simp [hr, ha, hs])
          clear hr ha hs
          obtain ⟨w1, e1, hb1, hs1, X⟩ := b4_new w (.int .i64 1) (.int .i64 r) (.int .i64 a) (.int .i64 s) 99
          have HE1 := hide e1
          obtain ⟨X0, X1, X2, X3⟩ := X.all
          clear e1 X
          go_enter Tryz.func168, Tryz.ntmps168
          go_upto_region 1 with (fail)
          rw [HE1.out]
          go_wp2_with fail
          (with_reducible refine (isReg_any r regs _).mono ?_)
          rintro e _ ⟨rfl, rfl⟩
          rw [HR.out]
          go_wp2_with fail
          (with_reducible refine (isReg_any a regs _).mono ?_)
          rintro e _ ⟨rfl, rfl⟩
          rw [HA.out]
          go_wp2_with fail
          (with_reducible refine (isSlot_any s slots _).mono ?_)
          rintro e _ ⟨rfl, rfl⟩
          rw [HS.out]
          go_wp2
          go_ret
          exact ⟨ret_bool (by rw [EF.out]), hb1⟩
        · have HA := hide ha
          have HS := hide hs
          have EF := hide (show cRight ⟨1, r, a, s⟩ regs slots = true by rw [cRight_reg]; simp [hr, ha, hs])
          clear hr ha hs
          obtain ⟨w1, e1, hb1, hs1, X⟩ := b4_new w (.int .i64 1) (.int .i64 r) (.int .i64 a) (.int .i64 s) 99
          have HE1 := hide e1
          obtain ⟨X0, X1, X2, X3⟩ := X.all
          clear e1 X
          go_enter Tryz.func168, Tryz.ntmps168
          go_upto_region 1 with (fail)
          rw [HE1.out]
          go_wp2_with fail
          (with_reducible refine (isReg_any r regs _).mono ?_)
          rintro e _ ⟨rfl, rfl⟩
          rw [HR.out]
          go_wp2_with fail
          (with_reducible refine (isReg_any a regs _).mono ?_)
          rintro e _ ⟨rfl, rfl⟩
          rw [HA.out]
          go_wp2_with fail
          (with_reducible refine (isSlot_any s slots _).mono ?_)
          rintro e _ ⟨rfl, rfl⟩
          rw [HS.out]
          go_wp2
          go_ret
          exact ⟨ret_bool (by rw [EF.out]), hb1⟩
    · skip
      by_cases k2 : k = 2
      · subst k2
        cases ha : cReg a regs
        · have HA := hide ha
          have EF := hide (show cRight ⟨2, r, a, s⟩ regs slots = false by rw [cRight_reg]; simp [hr, ha])
          clear hr ha
          obtain ⟨w1, e1, hb1, hs1, X⟩ := b4_new w (.int .i64 2) (.int .i64 r) (.int .i64 a) (.int .i64 s) 99
          have HE1 := hide e1
          obtain ⟨X0, X1, X2, X3⟩ := X.all
          clear e1 X
          go_enter Tryz.func168, Tryz.ntmps168
          go_upto_region 1 with (fail)
          rw [HE1.out]
          go_wp2_with fail
          (with_reducible refine (isReg_any r regs _).mono ?_)
          rintro e _ ⟨rfl, rfl⟩
          rw [HR.out]
          go_wp2_with fail
          (with_reducible refine (isReg_any a regs _).mono ?_)
          rintro e _ ⟨rfl, rfl⟩
          rw [HA.out]
          go_wp2
          go_ret
          exact ⟨ret_bool (by rw [EF.out]), hb1⟩
        · cases hs : cReg s slots
          · have HA := hide ha
            have HS := hide hs
            have EF := hide (show cRight ⟨2, r, a, s⟩ regs slots = false by rw [cRight_reg]; simp [hr, ha, hs])
            clear hr ha hs
            obtain ⟨w1, e1, hb1, hs1, X⟩ := b4_new w (.int .i64 2) (.int .i64 r) (.int .i64 a) (.int .i64 s) 99
            have HE1 := hide e1
            obtain ⟨X0, X1, X2, X3⟩ := X.all
            clear e1 X
            go_enter Tryz.func168, Tryz.ntmps168
            go_upto_region 1 with (fail)
            rw [HE1.out]
            go_wp2_with fail
            (with_reducible refine (isReg_any r regs _).mono ?_)
            rintro e _ ⟨rfl, rfl⟩
            rw [HR.out]
            go_wp2_with fail
            (with_reducible refine (isReg_any a regs _).mono ?_)
            rintro e _ ⟨rfl, rfl⟩
            rw [HA.out]
            go_wp2_with fail
            (with_reducible refine (isSlot_any s slots _).mono ?_)
            rintro e _ ⟨rfl, rfl⟩
            rw [HS.out]
            go_wp2
            go_ret
            exact ⟨ret_bool (by rw [EF.out]), hb1⟩
          · have HA := hide ha
            have HS := hide hs
            have EF := hide (show cRight ⟨2, r, a, s⟩ regs slots = true by rw [cRight_reg]; simp [hr, ha, hs])
            clear hr ha hs
            obtain ⟨w1, e1, hb1, hs1, X⟩ := b4_new w (.int .i64 2) (.int .i64 r) (.int .i64 a) (.int .i64 s) 99
            have HE1 := hide e1
            obtain ⟨X0, X1, X2, X3⟩ := X.all
            clear e1 X
            go_enter Tryz.func168, Tryz.ntmps168
            go_upto_region 1 with (fail)
            rw [HE1.out]
            go_wp2_with fail
            (with_reducible refine (isReg_any r regs _).mono ?_)
            rintro e _ ⟨rfl, rfl⟩
            rw [HR.out]
            go_wp2_with fail
            (with_reducible refine (isReg_any a regs _).mono ?_)
            rintro e _ ⟨rfl, rfl⟩
            rw [HA.out]
            go_wp2_with fail
            (with_reducible refine (isSlot_any s slots _).mono ?_)
            rintro e _ ⟨rfl, rfl⟩
            rw [HS.out]
            go_wp2
            go_ret
            exact ⟨ret_bool (by rw [EF.out]), hb1⟩
      · skip
        by_cases k3 : k = 3
        · subst k3
          by_cases ga : a = 0
          · by_cases gs : s = 0
            · have qa : (a == 0) = true := by simp [ga]
              have qs : (s == 0) = true := by simp [gs]
              have EF := hide (show cRight ⟨3, r, a, s⟩ regs slots = true by rw [cRight_reg]; simp [hr, ga, gs])
              clear hr ga gs
              obtain ⟨w1, e1, hb1, hs1, X⟩ := b4_new w (.int .i64 3) (.int .i64 r) (.int .i64 a) (.int .i64 s) 99
              have HE1 := hide e1
              obtain ⟨X0, X1, X2, X3⟩ := X.all
              clear e1 X
              go_enter Tryz.func168, Tryz.ntmps168
              go_upto_region 1 with (fail)
              rw [HE1.out]
              go_wp2_with fail
              (with_reducible refine (isReg_any r regs _).mono ?_)
              rintro e _ ⟨rfl, rfl⟩
              rw [HR.out]
              go_wp2
              go_ret
              exact ⟨ret_bool (by rw [EF.out]), hb1⟩
            · have qa : (a == 0) = true := by simp [ga]
              have qs : (s == 0) = false := by simp [gs]
              have EF := hide (show cRight ⟨3, r, a, s⟩ regs slots = false by rw [cRight_reg]; simp [hr, ga, gs])
              clear hr ga gs
              obtain ⟨w1, e1, hb1, hs1, X⟩ := b4_new w (.int .i64 3) (.int .i64 r) (.int .i64 a) (.int .i64 s) 99
              have HE1 := hide e1
              obtain ⟨X0, X1, X2, X3⟩ := X.all
              clear e1 X
              go_enter Tryz.func168, Tryz.ntmps168
              go_upto_region 1 with (fail)
              rw [HE1.out]
              go_wp2_with fail
              (with_reducible refine (isReg_any r regs _).mono ?_)
              rintro e _ ⟨rfl, rfl⟩
              rw [HR.out]
              go_wp2
              go_ret
              exact ⟨ret_bool (by rw [EF.out]), hb1⟩
          · have qa : (a == 0) = false := by simp [ga]
            have EF := hide (show cRight ⟨3, r, a, s⟩ regs slots = false by rw [cRight_reg]; simp [hr, ga])
            clear hr ga
            obtain ⟨w1, e1, hb1, hs1, X⟩ := b4_new w (.int .i64 3) (.int .i64 r) (.int .i64 a) (.int .i64 s) 99
            have HE1 := hide e1
            obtain ⟨X0, X1, X2, X3⟩ := X.all
            clear e1 X
            go_enter Tryz.func168, Tryz.ntmps168
            go_upto_region 1 with (fail)
            rw [HE1.out]
            go_wp2_with fail
            (with_reducible refine (isReg_any r regs _).mono ?_)
            rintro e _ ⟨rfl, rfl⟩
            rw [HR.out]
            go_wp2
            go_ret
            exact ⟨ret_bool (by rw [EF.out]), hb1⟩
        · skip
          by_cases k4 : k = 4
          · subst k4
            cases ha : cReg a regs
            · have HA := hide ha
              have EF := hide (show cRight ⟨4, r, a, s⟩ regs slots = false by rw [cRight_reg]; simp [hr, ha])
              clear hr ha
              obtain ⟨w1, e1, hb1, hs1, X⟩ := b4_new w (.int .i64 4) (.int .i64 r) (.int .i64 a) (.int .i64 s) 99
              have HE1 := hide e1
              obtain ⟨X0, X1, X2, X3⟩ := X.all
              clear e1 X
              go_enter Tryz.func168, Tryz.ntmps168
              go_upto_region 1 with (fail)
              rw [HE1.out]
              go_wp2_with fail
              (with_reducible refine (isReg_any r regs _).mono ?_)
              rintro e _ ⟨rfl, rfl⟩
              rw [HR.out]
              go_wp2_with fail
              (with_reducible refine (isReg_any a regs _).mono ?_)
              rintro e _ ⟨rfl, rfl⟩
              rw [HA.out]
              go_wp2
              go_ret
              exact ⟨ret_bool (by rw [EF.out]), hb1⟩
            · by_cases g : s = 0
              · have HA := hide ha
                have qg : (s == 0) = true := by simp [g]
                have EF := hide (show cRight ⟨4, r, a, s⟩ regs slots = true by rw [cRight_reg]; simp [hr, ha, g])
                clear hr ha g
                obtain ⟨w1, e1, hb1, hs1, X⟩ := b4_new w (.int .i64 4) (.int .i64 r) (.int .i64 a) (.int .i64 s) 99
                have HE1 := hide e1
                obtain ⟨X0, X1, X2, X3⟩ := X.all
                clear e1 X
                go_enter Tryz.func168, Tryz.ntmps168
                go_upto_region 1 with (fail)
                rw [HE1.out]
                go_wp2_with fail
                (with_reducible refine (isReg_any r regs _).mono ?_)
                rintro e _ ⟨rfl, rfl⟩
                rw [HR.out]
                go_wp2_with fail
                (with_reducible refine (isReg_any a regs _).mono ?_)
                rintro e _ ⟨rfl, rfl⟩
                rw [HA.out]
                go_wp2
                go_ret
                exact ⟨ret_bool (by rw [EF.out]), hb1⟩
              · have HA := hide ha
                have qg : (s == 0) = false := by simp [g]
                have EF := hide (show cRight ⟨4, r, a, s⟩ regs slots = false by rw [cRight_reg]; simp [hr, ha, g])
                clear hr ha g
                obtain ⟨w1, e1, hb1, hs1, X⟩ := b4_new w (.int .i64 4) (.int .i64 r) (.int .i64 a) (.int .i64 s) 99
                have HE1 := hide e1
                obtain ⟨X0, X1, X2, X3⟩ := X.all
                clear e1 X
                go_enter Tryz.func168, Tryz.ntmps168
                go_upto_region 1 with (fail)
                rw [HE1.out]
                go_wp2_with fail
                (with_reducible refine (isReg_any r regs _).mono ?_)
                rintro e _ ⟨rfl, rfl⟩
                rw [HR.out]
                go_wp2_with fail
                (with_reducible refine (isReg_any a regs _).mono ?_)
                rintro e _ ⟨rfl, rfl⟩
                rw [HA.out]
                go_wp2
                go_ret
                exact ⟨ret_bool (by rw [EF.out]), hb1⟩
          · skip
            by_cases k5 : k = 5
            · subst k5
              by_cases ga : a = 0
              · by_cases gs : s = 0
                · have qa : (a == 0) = true := by simp [ga]
                  have qs : (s == 0) = true := by simp [gs]
                  have EF := hide (show cRight ⟨5, r, a, s⟩ regs slots = true by rw [cRight_reg]; simp [hr, ga, gs])
                  clear hr ga gs
                  obtain ⟨w1, e1, hb1, hs1, X⟩ := b4_new w (.int .i64 5) (.int .i64 r) (.int .i64 a) (.int .i64 s) 99
                  have HE1 := hide e1
                  obtain ⟨X0, X1, X2, X3⟩ := X.all
                  clear e1 X
                  go_enter Tryz.func168, Tryz.ntmps168
                  go_upto_region 1 with (fail)
                  rw [HE1.out]
                  go_wp2_with fail
                  (with_reducible refine (isReg_any r regs _).mono ?_)
                  rintro e _ ⟨rfl, rfl⟩
                  rw [HR.out]
                  go_wp2
                  go_ret
                  exact ⟨ret_bool (by rw [EF.out]), hb1⟩
                · have qa : (a == 0) = true := by simp [ga]
                  have qs : (s == 0) = false := by simp [gs]
                  have EF := hide (show cRight ⟨5, r, a, s⟩ regs slots = false by rw [cRight_reg]; simp [hr, ga, gs])
                  clear hr ga gs
                  obtain ⟨w1, e1, hb1, hs1, X⟩ := b4_new w (.int .i64 5) (.int .i64 r) (.int .i64 a) (.int .i64 s) 99
                  have HE1 := hide e1
                  obtain ⟨X0, X1, X2, X3⟩ := X.all
                  clear e1 X
                  go_enter Tryz.func168, Tryz.ntmps168
                  go_upto_region 1 with (fail)
                  rw [HE1.out]
                  go_wp2_with fail
                  (with_reducible refine (isReg_any r regs _).mono ?_)
                  rintro e _ ⟨rfl, rfl⟩
                  rw [HR.out]
                  go_wp2
                  go_ret
                  exact ⟨ret_bool (by rw [EF.out]), hb1⟩
              · have qa : (a == 0) = false := by simp [ga]
                have EF := hide (show cRight ⟨5, r, a, s⟩ regs slots = false by rw [cRight_reg]; simp [hr, ga])
                clear hr ga
                obtain ⟨w1, e1, hb1, hs1, X⟩ := b4_new w (.int .i64 5) (.int .i64 r) (.int .i64 a) (.int .i64 s) 99
                have HE1 := hide e1
                obtain ⟨X0, X1, X2, X3⟩ := X.all
                clear e1 X
                go_enter Tryz.func168, Tryz.ntmps168
                go_upto_region 1 with (fail)
                rw [HE1.out]
                go_wp2_with fail
                (with_reducible refine (isReg_any r regs _).mono ?_)
                rintro e _ ⟨rfl, rfl⟩
                rw [HR.out]
                go_wp2
                go_ret
                exact ⟨ret_bool (by rw [EF.out]), hb1⟩
            · skip
              have q1 : (k == 1) = false := by simp [k1]
              have q2 : (k == 2) = false := by simp [k2]
              have q3 : (k == 3) = false := by simp [k3]
              have q4 : (k == 4) = false := by simp [k4]
              have q5 : (k == 5) = false := by simp [k5]
              have EF := hide (show cRight ⟨k, r, a, s⟩ regs slots = false by rw [cRight_reg]; simp [hr, k1, k2, k3, k4, k5])
              clear hr k1 k2 k3 k4 k5
              obtain ⟨w1, e1, hb1, hs1, X⟩ := b4_new w (.int .i64 k) (.int .i64 r) (.int .i64 a) (.int .i64 s) 99
              have HE1 := hide e1
              obtain ⟨X0, X1, X2, X3⟩ := X.all
              clear e1 X
              go_enter Tryz.func168, Tryz.ntmps168
              go_upto_region 1 with (fail)
              rw [HE1.out]
              go_wp2_with fail
              (with_reducible refine (isReg_any r regs _).mono ?_)
              rintro e _ ⟨rfl, rfl⟩
              rw [HR.out]
              go_wp2
              go_ret
              exact ⟨ret_bool (by rw [EF.out]), hb1⟩
set_option maxRecDepth 100000 in
set_option maxHeartbeats 2000000 in
theorem Fits_any (v : Value) (l : List Oq) (p q : Int) (w : World) (h : Oqs w v l) : Calls Tryz.prog 148 #[v, .int .i64 p, .int .i64 q] w fun e w' => e = .returned (.bool (cFits l p q)) ∧ Below w.heap.size w w' := by
  have HO := hide h
  obtain ⟨A, m, rfl, hm1, hm2, -⟩ := id h
  unfold maxLen at hm2
  clear h
  by_cases h64 : 64 < l.length
  · have HF := hide (show cFits l p q = false by unfold cFits; rw [Bool.and_eq_false_iff]; right; exact decide_eq_false (by omega))
    have h64i : (64 : Int) < (l.length : Int) := by omega
    clear h64
    go_enter Tryz.func148, Tryz.ntmps148
    go_wp2
    go_ret
    exact ⟨ret_bool HF.out.symm, Below.refl _ _⟩
  · have h64i : ¬ (64 : Int) < (l.length : Int) := by omega
    have H64 := hide (show l.length ≤ 64 by omega)
    clear h64
    go_enter Tryz.func148, Tryz.ntmps148
    go_wp2
    go_loopw [14] (fun iv wr => ∃ i : Nat, i ≤ l.length ∧ iv = .int .i64 i ∧ Below w.heap.size w wr ∧ Hid (((l.take i).all fun o => cRight o p q) = true)) (fun iv _ => l.length - (Go.RowKit.intOf iv).toNat)
    case atStart => exact ⟨0, Nat.zero_le _, rfl, Below.refl _ _, hide rfl⟩
    case round =>
      obtain ⟨i, hi, rfl, hb, HK⟩ := hrel
      by_cases hlt : i < l.length
      · obtain ⟨⟨k, r, a, s⟩, hd⟩ : ∃ d : Oq, l[i] = d := ⟨_, rfl⟩
        obtain ⟨g, off, rfl, -, d0, d1, d2, d3⟩ := oq_at (HO.out.below hb) hlt hd
        have HT := hide (cFits_take (p := p) (q := q) hlt)
        rw [hd] at HT
        obtain ⟨w1, e1, hb1, hs1, X⟩ := b4_new wr (.int .i64 k) (.int .i64 r) (.int .i64 a) (.int .i64 s) 99
        have HE1 := hide e1
        obtain ⟨X0, X1, X2, X3⟩ := X.all
        have hbB := bcall hb hb1
        clear e1 X
        cases hr : cRight ⟨k, r, a, s⟩ p q
        · have HR := hide hr
          have HF := hide (show cFits l p q = false by unfold cFits; rw [Bool.and_eq_false_iff]; left; rw [Bool.eq_false_iff]; intro h; rw [List.all_eq_true] at h; have := h _ (List.getElem_mem hlt); rw [hd, hr] at this; cases this)
          clear hr hd
          go_upto_region 6 with (fail)
          rw [HE1.out]
          go_wp2_with fail
          (with_reducible refine (Right_anyCd k r a s p q _).mono ?_)
          rintro e w2 ⟨rfl, hb2⟩
          rw [HR.out]
          have hb := bcall hbB hb2
          go_wp2
          go_ret
          exact ⟨ret_bool HF.out.symm, hb⟩
        · have HR := hide hr
          have HK2 := hide (show ((l.take (i + 1)).all fun o => cRight o p q) = true by rw [HT.out, HK.out, hr]; rfl)
          clear hr hd
          go_upto_region 6 with (fail)
          rw [HE1.out]
          go_wp2_with fail
          (with_reducible refine (Right_anyCd k r a s p q _).mono ?_)
          rintro e w2 ⟨rfl, hb2⟩
          rw [HR.out]
          have hb := bcall hbB hb2
          go_wp2
          go_roundw
          case rel => exact ⟨i + 1, by omega, by go_num, hb, HK2⟩
          case measure => simp [Go.RowKit.intOf]; omega
      · have HF := hide (show cFits l p q = true by have h := HK.out; rw [List.take_of_length_le (by omega)] at h; unfold cFits; rw [h]; exact decide_eq_true H64.out)
        go_wp2
        go_ret
        exact ⟨ret_bool HF.out.symm, hb⟩
end Go.Proofs.YtdmbcjckgfjcaaaGreatDoor
