/- Layer plan: the law's own: who steps, by bytes. Written by tools/genplanpicks.py. -/
import Derived.Test.YtjnokhaojpijhaaGreatDoorPPlanMadeP
import Derived.Test.YtjnokhaojpijhaaGreatDoorPbk
import Derived.Test.YtjnokhaojpijhaaGreatDoorPExtra
namespace Go.Proofs.YtjnokhaojpijhaaGreatDoor
open Go.RowKit Go.Shelf Go.Proofs Go.Joins
theorem tk_more {α : Type} {L : List α} {p : α} {m : Nat} (h : (L.take m).length < m) : (L ++ [p]).take m = L.take m ++ [p] := by
  rw [List.length_take] at h
  have hL : L.length < m := by omega
  rw [List.take_of_length_le (by simp; omega), List.take_of_length_le (by omega)]
theorem tk_full {α : Type} {L K : List α} {m : Nat} (h : ¬ (L.take m).length < m) : (L ++ K).take m = L.take m := by
  rw [List.length_take] at h
  exact List.take_append_of_le_length (by omega)
/-- what the first i bytes pick, and k of the next one -/
def repF (a b : Int) (x : Int) : List PP := List.replicate (x / 64 + 1).toNat (whoF a b x)
def prF (a b : Int) (l : List Int) (i : Nat) : List PP := (l.take i).flatMap (repF a b)
theorem prF_next {a b : Int} {l : List Int} {i : Nat} (h : i < l.length) : prF a b l (i + 1) = prF a b l i ++ repF a b l[i] := by
  unfold prF; rw [List.take_succ_eq_append_getElem h, List.flatMap_append]; simp
theorem prF_end (a b : Int) (l : List Int) (m : Nat) : (prF a b l l.length).take m = picksG a b l m := by
  unfold prF; rw [List.take_of_length_le (Nat.le_refl _)]; rfl
theorem prF_cut {a b : Int} {l : List Int} {m : Nat} (i : Nat) (h : ¬ ((prF a b l i).take m).length < m) : (prF a b l i).take m = picksG a b l m := by
  have e : l.flatMap (repF a b) = prF a b l i ++ (l.drop i).flatMap (repF a b) := by
    unfold prF; rw [← List.flatMap_append, List.take_append_drop]
  show _ = (l.flatMap (repF a b)).take m
  rw [e, tk_full h]
theorem rep_snoc (p : PP) (k : Nat) (L : List PP) : L ++ List.replicate (k + 1) p = (L ++ List.replicate k p) ++ [p] := by
  rw [List.replicate_succ', List.append_assoc]
theorem rep_full {L : List PP} {p : PP} {k c m : Nat} (hk : k ≤ c) (h : ¬ ((L ++ List.replicate k p).take m).length < m) : (L ++ List.replicate k p).take m = (L ++ List.replicate c p).take m := by
  have e : L ++ List.replicate c p = (L ++ List.replicate k p) ++ List.replicate (c - k) p := by
    rw [List.append_assoc]; congr 1; rw [List.replicate_append_replicate]; congr 1; omega
  rw [e, tk_full h]
theorem infoPk : (Tryz.prog.info? 108).map (fun i => (i.zero, i.size, i.bytes)) = some (some (.agg #[.int .i64 0, .int .i64 0]), 2, 16) := by kernel_rfl
theorem Bk.app {X X' : World} {A : Nat} {o : Obj} {row : Option Nat} (h : Bk X A o) (hg : X.grownBy X' row) (hne : ∀ x, row = some x → x ≠ A) : Bk X' A o := (hg.block A h.lt (fun e => hne A e.symm rfl)).trans h
theorem row_two {X : World} {base n C : Nat} {v p0 p1 : Value} {xs : List Value} (h : X.ownsRow base 108 2 v n xs) (hn : 2 ≤ n) (hb : Bk X C (.cells #[p0, p1] 108)) : ∀ x, v.ownBlock = some x → x ≠ C := by
  rcases h.2 with ⟨rfl, h0⟩ | ⟨g, cap, cur, rfl, _, hg, hnc, _, hcs, _⟩
  · omega
  · intro x hx e
    cases hx
    subst e
    unfold Bk at hb
    rw [hg] at hb
    injection hb with hb
    injection hb with hb
    subst hb
    simp at hcs
    omega
theorem row_old {X X' : World} {base n : Nat} {v : Value} {xs : List Value} (h : X.ownsRow base 108 2 v n xs) (hb : X.heap.size ≤ X'.heap.size) : ∀ x, v.ownBlock = some x → x ≠ X'.heap.size := fun x hx => by have := (h.lt x hx).2; omega
theorem belowP {n : Nat} {a b : World} (h : Below n a b) : Below n a b.drew := ⟨h.os, h.tape, h.output, h.size, h.block⟩
set_option maxRecDepth 100000 in
set_option maxHeartbeats 16000000 in
theorem picks_any (a b c d e f g h n : Int) (ob : Value) (s : Nat) (rg pg pk : Value) (v : Value) (l : List Int) (most : Nat) (w : World) (hl : Bytes w v l) (hr : ∀ b ∈ l, 0 ≤ b ∧ b ≤ 255) (ha : 0 ≤ a ∧ a ≤ 16) (hb : 0 ≤ b ∧ b ≤ 16) (hm : most ≤ 1000) (q : List PP) (hq : picksG a b l most = q) :
    Calls Tryz.prog 28 #[planV a b c d e f g h n ob s rg pg pk, v, .int .i64 most] w fun x w' => ∃ A3 c3, x = .returned (.slice A3 q.length c3) ∧ w'.ownsRow w.heap.size 108 2 (.slice A3 q.length c3) q.length (q.flatMap pc) ∧ Below w.heap.size w w' := by
  subst hq
  obtain ⟨Al, cl, rfl, hl1, hl2, -⟩ := id hl
  unfold maxLen at hl2
  obtain ⟨i0, hi, hz0, hz1, hz2⟩ := info_parts infoPk
  obtain ⟨ha0, ha1⟩ := ha
  obtain ⟨hb0, hb1_⟩ := hb
  obtain ⟨w1, e1, hb1, hs1, X⟩ := bp_new w a b c d e f g h n ob s rg pg pk 30
  have HE1 := hide e1
  have HX := hide X
  have HBY := hide (hl.below hb1)
  have HR := hide hr
  have HB1 := hide hb1
  have HWW := hide (show w.heap.size ≤ w1.heap.size by omega)
  clear e1 X hl hr hb1 hs1
  unfold planV
  go_enter Tryz.func28, Tryz.ntmps28
  go_upto_region 2 with (fail)
  rw [HE1.out]
  go_wp2
  go_loopw [7, 8, 9, 10, 11] (fun ov iv _ _ _ wr => ∃ (i nr : Nat), i ≤ l.length ∧ nr ≤ most ∧ iv = .int .i64 i ∧ Hid (Below w1.heap.size w1 wr) ∧ Hid (wr.ownsRow w1.heap.size 108 2 ov nr (((prF a b l i).take most).flatMap pc)) ∧ Hid (((prF a b l i).take most).length = nr) ∧ Hid (nr = 0 → ov = .slice none 0 0)) (fun _ iv _ _ _ _ => l.length - (intOf iv).toNat)
  case atStart => exact ⟨0, 0, by omega, by omega, rfl, hide (Below.refl _ _), hide (by simpa [prF] using World.ownsRow_nil _ _ _ _), hide (by simp [prF]), hide (fun _ => rfl)⟩
  case round =>
    obtain ⟨i, nr, hil, hnm, rfl, HBC, HOW, HLN, HZN⟩ := hrel
    obtain ⟨wo, rfl⟩ : ∃ W, W = wr := ⟨_, rfl⟩
    obtain ⟨Ao, co, rfl, hco1, hco2⟩ := own_form HOW.out
    unfold maxLen at hco2
    by_cases hlt : i < l.length
    · by_cases hnn : nr < most
      · skip
        obtain ⟨b0, off, rfl, hbl, d01⟩ := bytes_atPk HBY.out hlt
        have d0 := keepcHp HBC.out d01
        have hbl := Nat.lt_of_lt_of_le hbl HBC.out.size
        have D0 := hide d01
        clear d01
        have hx := HR.out l[i] (List.getElem_mem hlt)
        have HNX := hide (prF_next (a := a) (b := b) hlt)
        generalize l[i] = x at *
        obtain ⟨x0, x1⟩ := hx
        obtain ⟨y, hy⟩ : ∃ y, x % (1 + a + b) = y := ⟨_, rfl⟩
        have hyb : 0 ≤ y ∧ y < 1 + a + b := by have h1 := Int.emod_nonneg x (show 1 + a + b ≠ 0 by omega); have h2 := Int.emod_lt_of_pos x (show 0 < 1 + a + b by omega); omega
        have hty : x.tmod (1 + a + b) = y := by rw [Int.tmod_eq_emod_of_nonneg x0]; exact hy
        have HWH := hide (show whoF a b x = if a < y then (2, y - a) else if 0 < y then (1, y) else (0, 0) by unfold whoF; rw [hy])
        obtain ⟨cn, hcn⟩ : ∃ c : Nat, x / 64 = (c : Int) := ⟨(x / 64).toNat, by omega⟩
        have hc3 : cn ≤ 3 := by omega
        have htd : x.tdiv 64 = (cn : Int) := by rw [Int.tdiv_eq_ediv_of_nonneg x0]; exact hcn
        have HRP := hide (show repF a b x = List.replicate (cn + 1) (whoF a b x) by unfold repF; rw [hcn]; rfl)
        clear hy hcn
        have wx : IntKind.i64.wrap x = x := wrq x x0 x1
        have z1 : (1 + a + b == 0) = false := by simp; omega
        have z2 : ¬ 1 + a + b = 0 := by omega
        obtain ⟨cA, cB⟩ : wo.cell? ⟨w.heap.size, 0, none⟩ = some (.int .i64 a) ∧ wo.cell? ⟨w.heap.size, 1, none⟩ = some (.int .i64 b) := by have h := (HX.out.below HBC.out).all; exact ⟨h.1, h.2.1⟩
        go_upto_region 5 with (fail)
        go_quiet (fail)
        clear hty wx
        obtain ⟨wd, ed, hbd⟩ : ∃ W, wo.drewN nq = W ∧ Below wo.heap.size wo W := ⟨_, rfl, bdrewN (Below.refl _ _) nq⟩
        rw [ed]
        clear ed
        have HOW := hide (own_below HOW.out hbd)
        have d0 := keepcHp hbd d0
        have cA := keepcHp hbd cA
        have cB := keepcHp hbd cB
        have HBC := hide (bcall HBC.out hbd)
        have hwl : w.heap.size < wd.heap.size := (HX.out.below HBC.out).lt
        have hbl : b0 < wd.heap.size := Nat.lt_of_lt_of_le hbl hbd.size
        clear hbd
        by_cases hya : a < y
        · have hyd : decide (y > a) = true := decide_eq_true hya
          have HP := hide (show whoF a b x = ((2 : Int), y - a) by rw [HWH.out]; rw [if_pos hya])
          clear HWH
          go_upto_region 11 with (fail)
          obtain ⟨wz, ez, HBZ, HXB⟩ : ∃ Z, wd.alloc (.cells #[.int .i64 (2), .int .i64 (y - a)] 108) = Z ∧ Hid (Below wd.heap.size wd Z) ∧ Hid (Bk Z wd.heap.size (.cells #[.int .i64 ((2 : Int)), .int .i64 (y - a)] 108)) := ⟨_, rfl, hide (balHp _ _), hide (Bk.new _ _)⟩
          have HEZ := hide ez
          clear ez
          rw [HEZ.out]
          clear cA cB d0 HEZ
          have HBC := hide (bcall HBC.out HBZ.out)
          have HAP := hide (row_old HOW.out (Nat.le_refl wd.heap.size))
          have HOW := hide (own_below HOW.out HBZ.out)
          go_wp2
          go_loopw [7, 11] (fun ov kv wq => ∃ (k n2 : Nat), k ≤ cn + 1 ∧ n2 ≤ most ∧ kv = .int .i64 k ∧ Hid (Below w1.heap.size w1 wq) ∧ Hid (Bk wq wd.heap.size (.cells #[.int .i64 ((2 : Int)), .int .i64 (y - a)] 108)) ∧ Hid (wq.ownsRow w1.heap.size 108 2 ov n2 (((prF a b l i ++ List.replicate k ((2 : Int), y - a)).take most).flatMap pc)) ∧ Hid (((prF a b l i ++ List.replicate k ((2 : Int), y - a)).take most).length = n2) ∧ Hid (n2 = 0 → ov = .slice none 0 0) ∧ Hid (∀ x, ov.ownBlock = some x → x ≠ wd.heap.size)) (fun _ kv _ => cn + 1 - (intOf kv).toNat)
          case atStart => exact ⟨0, nr, by omega, by omega, rfl, HBC, HXB, hide (by simpa using HOW.out), hide (by simpa using HLN.out), HZN, HAP⟩
          case round =>
            clear HBC HXB HOW HLN HZN HAP hco1 hco2
            obtain ⟨k, n2, hkc, hn2, rfl, HBC, HXB, HOW, HLN, HZN, HAP⟩ := hrel
            obtain ⟨A2, c2, rfl, hd1, hd2⟩ := own_form HOW.out
            unfold maxLen at hd2
            have hcell := (HBY.out.below HBC.out)
            have d0 := keepcHp HBC.out D0.out
            have p0 := cell_of_block HXB.out 0
            have p1 := cell_of_block HXB.out 1
            by_cases hkk : k ≤ cn
            · have hkd : decide ((k : Int) ≤ (cn : Int)) = true := decide_eq_true (by omega)
              by_cases hn3 : n2 < most
              · have HTM := hide (show (prF a b l i ++ List.replicate (k + 1) ((2 : Int), y - a)).take most = (prF a b l i ++ List.replicate k ((2 : Int), y - a)).take most ++ [((2 : Int), y - a)] by rw [rep_snoc]; exact tk_more (by rw [HLN.out]; exact hn3))
                have HTF := hide (show ((prF a b l i ++ List.replicate (k + 1) ((2 : Int), y - a)).take most).flatMap pc = ((prF a b l i ++ List.replicate k ((2 : Int), y - a)).take most).flatMap pc ++ [.int .i64 ((2 : Int)), .int .i64 (y - a)] by rw [HTM.out, List.flatMap_append]; rfl)
                have HKZ := hide HBC.out.size
                by_cases hz : n2 = 0
                · obtain ⟨hzA, hzc⟩ : A2 = none ∧ c2 = 0 := by have h := HZN.out hz; injection h with h1 h2 h3; exact ⟨h1, h3⟩
                  subst hzA hzc hz
                  have HNW := hide (HXB.out.lt)
                  have HOZ := hide (show (((prF a b l i ++ List.replicate k ((2 : Int), y - a)).take most).flatMap pc) = [] by rw [List.eq_nil_of_length_eq_zero HLN.out]; rfl)
                  go_wp2_with (at_builtin; refine wpList_append_own _ rfl _ _ 28 rfl wr.heap.size 108 i0 (.agg #[.int .i64 0, .int .i64 0]) 2 16 Tryz.underlying28 hi hz0 hz1 hz2 rfl (by decide) _ _ _ rfl (World.ownsRow_nil _ wr.heap.size 108 2) ⟨_, 0, none⟩ 1 1 [.int .i64 ((2 : Int)), .int .i64 (y - a)] rfl rfl (row_at _ _ _ (by simp)) (by simp [Value.oneCell']) (by simp only [maxLen]; omega) (by omega) (by simp) ?_; intro v' w6 hown' hgrow _)
                  go_roundw
                  case rel => exact ⟨k + 1, 1, by omega, by omega, by go_num, hide ((HBC.out.alloc HBC.out.size _).grown hgrow (by have := HKZ.out; simp; omega) (fun x hx => by cases hx)), hide (Bk.app (HXB.out.below (balHp _ _)) hgrow (fun x hx => by cases hx)), hide (by rw [HTF.out, HOZ.out]; exact own_base hown' HKZ.out), hide (by rw [HTM.out, List.length_append, HLN.out]; rfl), hide (fun h => absurd h (by decide)), hide (fun x hx => by have h1 := own_ge hown' x hx; have := HNW.out; omega)⟩
                  case measure => simp [intOf]; omega
                · have hn1 : 2 ≤ n2 + 1 := by omega
                  go_wp2_with (at_builtin; refine wpList_append_own _ rfl _ _ 28 rfl w1.heap.size 108 i0 (.agg #[.int .i64 0, .int .i64 0]) 2 16 Tryz.underlying28 hi hz0 hz1 hz2 rfl (by decide) _ _ _ rfl (HOW.out.alloc _) ⟨_, 0, none⟩ 1 1 [.int .i64 ((2 : Int)), .int .i64 (y - a)] rfl rfl (row_at _ _ _ (by simp)) (by simp [Value.oneCell']) (by simp only [maxLen]; omega) (by omega) (by have := HKZ.out; simp; omega) ?_; intro v' w6 hown' hgrow _)
                  go_roundw
                  case rel =>
                    have hbk := Bk.app (HXB.out.below (balHp _ _)) hgrow HAP.out
                    exact ⟨k + 1, n2 + 1, by omega, by omega, by go_num, hide ((HBC.out.alloc HBC.out.size _).grown hgrow (by have := HKZ.out; simp; omega) (own_ge HOW.out)), hide hbk, hide (by rw [HTF.out]; exact hown'), hide (by rw [HTM.out, List.length_append, HLN.out]; rfl), hide (fun h => absurd h (by omega)), hide (row_two hown' hn1 hbk)⟩
                  case measure => simp [intOf]; omega
              · have HFU := hide (show (prF a b l i ++ List.replicate k ((2 : Int), y - a)).take most = (prF a b l (i + 1)).take most by rw [HNX.out, HRP.out, HP.out]; exact rep_full (by omega) (by rw [HLN.out]; exact hn3))
                go_wp2
                go_roundw
                case rel => exact ⟨i + 1, n2, by omega, by omega, by go_num, HBC, hide (by rw [← HFU.out]; exact HOW.out), hide (by rw [← HFU.out]; exact HLN.out), HZN⟩
                case measure => simp [intOf]; omega
            · have hkd : decide ((k : Int) ≤ (cn : Int)) = false := decide_eq_false (by omega)
              obtain rfl : k = cn + 1 := by omega
              have HFU := hide (show (prF a b l i ++ List.replicate (cn + 1) ((2 : Int), y - a)).take most = (prF a b l (i + 1)).take most by rw [HNX.out, HRP.out, HP.out])
              go_wp2
              go_roundw
              case rel => exact ⟨i + 1, n2, by omega, by omega, by go_num, HBC, hide (by rw [← HFU.out]; exact HOW.out), hide (by rw [← HFU.out]; exact HLN.out), HZN⟩
              case measure => simp [intOf]; omega
        · have hyd : decide (y > a) = false := decide_eq_false hya
          by_cases hy0 : 0 < y
          · have hye : decide (y > 0) = true := decide_eq_true hy0
            have HP := hide (show whoF a b x = ((1 : Int), y) by rw [HWH.out]; rw [if_neg hya, if_pos hy0])
            clear HWH
            go_upto_region 11 with (fail)
            obtain ⟨wz, ez, HBZ, HXB⟩ : ∃ Z, wd.alloc (.cells #[.int .i64 (1), .int .i64 (y)] 108) = Z ∧ Hid (Below wd.heap.size wd Z) ∧ Hid (Bk Z wd.heap.size (.cells #[.int .i64 ((1 : Int)), .int .i64 (y)] 108)) := ⟨_, rfl, hide (balHp _ _), hide (Bk.new _ _)⟩
            have HEZ := hide ez
            clear ez
            rw [HEZ.out]
            clear cA cB d0 HEZ
            have HBC := hide (bcall HBC.out HBZ.out)
            have HAP := hide (row_old HOW.out (Nat.le_refl wd.heap.size))
            have HOW := hide (own_below HOW.out HBZ.out)
            go_wp2
            go_loopw [7, 11] (fun ov kv wq => ∃ (k n2 : Nat), k ≤ cn + 1 ∧ n2 ≤ most ∧ kv = .int .i64 k ∧ Hid (Below w1.heap.size w1 wq) ∧ Hid (Bk wq wd.heap.size (.cells #[.int .i64 ((1 : Int)), .int .i64 (y)] 108)) ∧ Hid (wq.ownsRow w1.heap.size 108 2 ov n2 (((prF a b l i ++ List.replicate k ((1 : Int), y)).take most).flatMap pc)) ∧ Hid (((prF a b l i ++ List.replicate k ((1 : Int), y)).take most).length = n2) ∧ Hid (n2 = 0 → ov = .slice none 0 0) ∧ Hid (∀ x, ov.ownBlock = some x → x ≠ wd.heap.size)) (fun _ kv _ => cn + 1 - (intOf kv).toNat)
            case atStart => exact ⟨0, nr, by omega, by omega, rfl, HBC, HXB, hide (by simpa using HOW.out), hide (by simpa using HLN.out), HZN, HAP⟩
            case round =>
              clear HBC HXB HOW HLN HZN HAP hco1 hco2
              obtain ⟨k, n2, hkc, hn2, rfl, HBC, HXB, HOW, HLN, HZN, HAP⟩ := hrel
              obtain ⟨A2, c2, rfl, hd1, hd2⟩ := own_form HOW.out
              unfold maxLen at hd2
              have hcell := (HBY.out.below HBC.out)
              have d0 := keepcHp HBC.out D0.out
              have p0 := cell_of_block HXB.out 0
              have p1 := cell_of_block HXB.out 1
              by_cases hkk : k ≤ cn
              · have hkd : decide ((k : Int) ≤ (cn : Int)) = true := decide_eq_true (by omega)
                by_cases hn3 : n2 < most
                · have HTM := hide (show (prF a b l i ++ List.replicate (k + 1) ((1 : Int), y)).take most = (prF a b l i ++ List.replicate k ((1 : Int), y)).take most ++ [((1 : Int), y)] by rw [rep_snoc]; exact tk_more (by rw [HLN.out]; exact hn3))
                  have HTF := hide (show ((prF a b l i ++ List.replicate (k + 1) ((1 : Int), y)).take most).flatMap pc = ((prF a b l i ++ List.replicate k ((1 : Int), y)).take most).flatMap pc ++ [.int .i64 ((1 : Int)), .int .i64 (y)] by rw [HTM.out, List.flatMap_append]; rfl)
                  have HKZ := hide HBC.out.size
                  by_cases hz : n2 = 0
                  · obtain ⟨hzA, hzc⟩ : A2 = none ∧ c2 = 0 := by have h := HZN.out hz; injection h with h1 h2 h3; exact ⟨h1, h3⟩
                    subst hzA hzc hz
                    have HNW := hide (HXB.out.lt)
                    have HOZ := hide (show (((prF a b l i ++ List.replicate k ((1 : Int), y)).take most).flatMap pc) = [] by rw [List.eq_nil_of_length_eq_zero HLN.out]; rfl)
                    go_wp2_with (at_builtin; refine wpList_append_own _ rfl _ _ 28 rfl wr.heap.size 108 i0 (.agg #[.int .i64 0, .int .i64 0]) 2 16 Tryz.underlying28 hi hz0 hz1 hz2 rfl (by decide) _ _ _ rfl (World.ownsRow_nil _ wr.heap.size 108 2) ⟨_, 0, none⟩ 1 1 [.int .i64 ((1 : Int)), .int .i64 (y)] rfl rfl (row_at _ _ _ (by simp)) (by simp [Value.oneCell']) (by simp only [maxLen]; omega) (by omega) (by simp) ?_; intro v' w6 hown' hgrow _)
                    go_roundw
                    case rel => exact ⟨k + 1, 1, by omega, by omega, by go_num, hide ((HBC.out.alloc HBC.out.size _).grown hgrow (by have := HKZ.out; simp; omega) (fun x hx => by cases hx)), hide (Bk.app (HXB.out.below (balHp _ _)) hgrow (fun x hx => by cases hx)), hide (by rw [HTF.out, HOZ.out]; exact own_base hown' HKZ.out), hide (by rw [HTM.out, List.length_append, HLN.out]; rfl), hide (fun h => absurd h (by decide)), hide (fun x hx => by have h1 := own_ge hown' x hx; have := HNW.out; omega)⟩
                    case measure => simp [intOf]; omega
                  · have hn1 : 2 ≤ n2 + 1 := by omega
                    go_wp2_with (at_builtin; refine wpList_append_own _ rfl _ _ 28 rfl w1.heap.size 108 i0 (.agg #[.int .i64 0, .int .i64 0]) 2 16 Tryz.underlying28 hi hz0 hz1 hz2 rfl (by decide) _ _ _ rfl (HOW.out.alloc _) ⟨_, 0, none⟩ 1 1 [.int .i64 ((1 : Int)), .int .i64 (y)] rfl rfl (row_at _ _ _ (by simp)) (by simp [Value.oneCell']) (by simp only [maxLen]; omega) (by omega) (by have := HKZ.out; simp; omega) ?_; intro v' w6 hown' hgrow _)
                    go_roundw
                    case rel =>
                      have hbk := Bk.app (HXB.out.below (balHp _ _)) hgrow HAP.out
                      exact ⟨k + 1, n2 + 1, by omega, by omega, by go_num, hide ((HBC.out.alloc HBC.out.size _).grown hgrow (by have := HKZ.out; simp; omega) (own_ge HOW.out)), hide hbk, hide (by rw [HTF.out]; exact hown'), hide (by rw [HTM.out, List.length_append, HLN.out]; rfl), hide (fun h => absurd h (by omega)), hide (row_two hown' hn1 hbk)⟩
                    case measure => simp [intOf]; omega
                · have HFU := hide (show (prF a b l i ++ List.replicate k ((1 : Int), y)).take most = (prF a b l (i + 1)).take most by rw [HNX.out, HRP.out, HP.out]; exact rep_full (by omega) (by rw [HLN.out]; exact hn3))
                  go_wp2
                  go_roundw
                  case rel => exact ⟨i + 1, n2, by omega, by omega, by go_num, HBC, hide (by rw [← HFU.out]; exact HOW.out), hide (by rw [← HFU.out]; exact HLN.out), HZN⟩
                  case measure => simp [intOf]; omega
              · have hkd : decide ((k : Int) ≤ (cn : Int)) = false := decide_eq_false (by omega)
                obtain rfl : k = cn + 1 := by omega
                have HFU := hide (show (prF a b l i ++ List.replicate (cn + 1) ((1 : Int), y)).take most = (prF a b l (i + 1)).take most by rw [HNX.out, HRP.out, HP.out])
                go_wp2
                go_roundw
                case rel => exact ⟨i + 1, n2, by omega, by omega, by go_num, HBC, hide (by rw [← HFU.out]; exact HOW.out), hide (by rw [← HFU.out]; exact HLN.out), HZN⟩
                case measure => simp [intOf]; omega
          · have hye : decide (y > 0) = false := decide_eq_false hy0
            have HP := hide (show whoF a b x = ((0 : Int), (0 : Int)) by rw [HWH.out]; rw [if_neg hya, if_neg hy0])
            clear HWH
            go_upto_region 11 with (fail)
            obtain ⟨wz, ez, HBZ, HXB⟩ : ∃ Z, wd.alloc (.cells #[.int .i64 (0), .int .i64 (0)] 108) = Z ∧ Hid (Below wd.heap.size wd Z) ∧ Hid (Bk Z wd.heap.size (.cells #[.int .i64 ((0 : Int)), .int .i64 ((0 : Int))] 108)) := ⟨_, rfl, hide (balHp _ _), hide (Bk.new _ _)⟩
            have HEZ := hide ez
            clear ez
            rw [HEZ.out]
            clear cA cB d0 HEZ
            have HBC := hide (bcall HBC.out HBZ.out)
            have HAP := hide (row_old HOW.out (Nat.le_refl wd.heap.size))
            have HOW := hide (own_below HOW.out HBZ.out)
            go_wp2
            go_loopw [7, 11] (fun ov kv wq => ∃ (k n2 : Nat), k ≤ cn + 1 ∧ n2 ≤ most ∧ kv = .int .i64 k ∧ Hid (Below w1.heap.size w1 wq) ∧ Hid (Bk wq wd.heap.size (.cells #[.int .i64 ((0 : Int)), .int .i64 ((0 : Int))] 108)) ∧ Hid (wq.ownsRow w1.heap.size 108 2 ov n2 (((prF a b l i ++ List.replicate k ((0 : Int), (0 : Int))).take most).flatMap pc)) ∧ Hid (((prF a b l i ++ List.replicate k ((0 : Int), (0 : Int))).take most).length = n2) ∧ Hid (n2 = 0 → ov = .slice none 0 0) ∧ Hid (∀ x, ov.ownBlock = some x → x ≠ wd.heap.size)) (fun _ kv _ => cn + 1 - (intOf kv).toNat)
            case atStart => exact ⟨0, nr, by omega, by omega, rfl, HBC, HXB, hide (by simpa using HOW.out), hide (by simpa using HLN.out), HZN, HAP⟩
            case round =>
              clear HBC HXB HOW HLN HZN HAP hco1 hco2
              obtain ⟨k, n2, hkc, hn2, rfl, HBC, HXB, HOW, HLN, HZN, HAP⟩ := hrel
              obtain ⟨A2, c2, rfl, hd1, hd2⟩ := own_form HOW.out
              unfold maxLen at hd2
              have hcell := (HBY.out.below HBC.out)
              have d0 := keepcHp HBC.out D0.out
              have p0 := cell_of_block HXB.out 0
              have p1 := cell_of_block HXB.out 1
              by_cases hkk : k ≤ cn
              · have hkd : decide ((k : Int) ≤ (cn : Int)) = true := decide_eq_true (by omega)
                by_cases hn3 : n2 < most
                · have HTM := hide (show (prF a b l i ++ List.replicate (k + 1) ((0 : Int), (0 : Int))).take most = (prF a b l i ++ List.replicate k ((0 : Int), (0 : Int))).take most ++ [((0 : Int), (0 : Int))] by rw [rep_snoc]; exact tk_more (by rw [HLN.out]; exact hn3))
                  have HTF := hide (show ((prF a b l i ++ List.replicate (k + 1) ((0 : Int), (0 : Int))).take most).flatMap pc = ((prF a b l i ++ List.replicate k ((0 : Int), (0 : Int))).take most).flatMap pc ++ [.int .i64 ((0 : Int)), .int .i64 ((0 : Int))] by rw [HTM.out, List.flatMap_append]; rfl)
                  have HKZ := hide HBC.out.size
                  by_cases hz : n2 = 0
                  · obtain ⟨hzA, hzc⟩ : A2 = none ∧ c2 = 0 := by have h := HZN.out hz; injection h with h1 h2 h3; exact ⟨h1, h3⟩
                    subst hzA hzc hz
                    have HNW := hide (HXB.out.lt)
                    have HOZ := hide (show (((prF a b l i ++ List.replicate k ((0 : Int), (0 : Int))).take most).flatMap pc) = [] by rw [List.eq_nil_of_length_eq_zero HLN.out]; rfl)
                    go_wp2_with (at_builtin; refine wpList_append_own _ rfl _ _ 28 rfl wr.heap.size 108 i0 (.agg #[.int .i64 0, .int .i64 0]) 2 16 Tryz.underlying28 hi hz0 hz1 hz2 rfl (by decide) _ _ _ rfl (World.ownsRow_nil _ wr.heap.size 108 2) ⟨_, 0, none⟩ 1 1 [.int .i64 ((0 : Int)), .int .i64 ((0 : Int))] rfl rfl (row_at _ _ _ (by simp)) (by simp [Value.oneCell']) (by simp only [maxLen]; omega) (by omega) (by simp) ?_; intro v' w6 hown' hgrow _)
                    go_roundw
                    case rel => exact ⟨k + 1, 1, by omega, by omega, by go_num, hide ((HBC.out.alloc HBC.out.size _).grown hgrow (by have := HKZ.out; simp; omega) (fun x hx => by cases hx)), hide (Bk.app (HXB.out.below (balHp _ _)) hgrow (fun x hx => by cases hx)), hide (by rw [HTF.out, HOZ.out]; exact own_base hown' HKZ.out), hide (by rw [HTM.out, List.length_append, HLN.out]; rfl), hide (fun h => absurd h (by decide)), hide (fun x hx => by have h1 := own_ge hown' x hx; have := HNW.out; omega)⟩
                    case measure => simp [intOf]; omega
                  · have hn1 : 2 ≤ n2 + 1 := by omega
                    go_wp2_with (at_builtin; refine wpList_append_own _ rfl _ _ 28 rfl w1.heap.size 108 i0 (.agg #[.int .i64 0, .int .i64 0]) 2 16 Tryz.underlying28 hi hz0 hz1 hz2 rfl (by decide) _ _ _ rfl (HOW.out.alloc _) ⟨_, 0, none⟩ 1 1 [.int .i64 ((0 : Int)), .int .i64 ((0 : Int))] rfl rfl (row_at _ _ _ (by simp)) (by simp [Value.oneCell']) (by simp only [maxLen]; omega) (by omega) (by have := HKZ.out; simp; omega) ?_; intro v' w6 hown' hgrow _)
                    go_roundw
                    case rel =>
                      have hbk := Bk.app (HXB.out.below (balHp _ _)) hgrow HAP.out
                      exact ⟨k + 1, n2 + 1, by omega, by omega, by go_num, hide ((HBC.out.alloc HBC.out.size _).grown hgrow (by have := HKZ.out; simp; omega) (own_ge HOW.out)), hide hbk, hide (by rw [HTF.out]; exact hown'), hide (by rw [HTM.out, List.length_append, HLN.out]; rfl), hide (fun h => absurd h (by omega)), hide (row_two hown' hn1 hbk)⟩
                    case measure => simp [intOf]; omega
                · have HFU := hide (show (prF a b l i ++ List.replicate k ((0 : Int), (0 : Int))).take most = (prF a b l (i + 1)).take most by rw [HNX.out, HRP.out, HP.out]; exact rep_full (by omega) (by rw [HLN.out]; exact hn3))
                  go_wp2
                  go_roundw
                  case rel => exact ⟨i + 1, n2, by omega, by omega, by go_num, HBC, hide (by rw [← HFU.out]; exact HOW.out), hide (by rw [← HFU.out]; exact HLN.out), HZN⟩
                  case measure => simp [intOf]; omega
              · have hkd : decide ((k : Int) ≤ (cn : Int)) = false := decide_eq_false (by omega)
                obtain rfl : k = cn + 1 := by omega
                have HFU := hide (show (prF a b l i ++ List.replicate (cn + 1) ((0 : Int), (0 : Int))).take most = (prF a b l (i + 1)).take most by rw [HNX.out, HRP.out, HP.out])
                go_wp2
                go_roundw
                case rel => exact ⟨i + 1, n2, by omega, by omega, by go_num, HBC, hide (by rw [← HFU.out]; exact HOW.out), hide (by rw [← HFU.out]; exact HLN.out), HZN⟩
                case measure => simp [intOf]; omega
      · have HFI := hide (prF_cut i (by rw [HLN.out]; exact hnn))
        go_wp2
        go_ret
        rw [HFI.out] at HOW HLN
        have hz := HLN.out
        subst hz
        have ho := HOW.out
        exact ⟨_, _, rfl, own_base ho HWW.out, bcall HB1.out HBC.out⟩
    · obtain rfl : i = l.length := by omega
      rw [prF_end] at HOW HLN
      go_wp2
      go_ret
      have hz := HLN.out
      subst hz
      have ho := HOW.out
      exact ⟨_, _, rfl, own_base ho HWW.out, bcall HB1.out HBC.out⟩
end Go.Proofs.YtjnokhaojpijhaaGreatDoor
