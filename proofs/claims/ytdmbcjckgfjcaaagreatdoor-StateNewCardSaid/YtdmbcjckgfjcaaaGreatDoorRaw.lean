import Derived.Deep.RegionHeldLaw
import Derived.Deep.RegionLaw
import Derived.Deep.Cut
import Derived.Test.YtdmbcjckgfjcaaaGreatDoorRav
import Derived.Test.YtdmbcjckgfjcaaaGreatDoorRat
import Derived.Test.YtdmbcjckgfjcaaaGreatDoorRak
import Derived.Test.YtdmbcjckgfjcaaaGreatDoorRah
/- Layer plan: the program's Right, part by part. Written by tools/genplanr2.py. -/
namespace Go.Proofs.YtdmbcjckgfjcaaaGreatDoor
open Go.RowKit Go.Joins
theorem Bp.cells {t : TypeId} {w : World} {B : Nat} {a b c d e f g h n : Int} {ob : Value} {s : Nat} {rg pg pk : Value} (k : Bp t w B a b c d e f g h n ob s rg pg pk) :
    w.cell? ⟨B, 0, none⟩ = some (.int .i64 a) ∧ w.cell? ⟨B, 1, none⟩ = some (.int .i64 b) ∧ w.cell? ⟨B, 2, none⟩ = some (.int .i64 c) ∧ w.cell? ⟨B, 3, none⟩ = some (.int .i64 d) ∧ w.cell? ⟨B, 4, none⟩ = some (.int .i64 e) ∧ w.cell? ⟨B, 5, none⟩ = some (.int .i64 f) ∧ w.cell? ⟨B, 6, none⟩ = some (.int .i64 g) ∧ w.cell? ⟨B, 7, none⟩ = some (.int .i64 h) ∧ w.cell? ⟨B, 8, none⟩ = some (.int .i64 n) ∧ w.cell? ⟨B, 9, none⟩ = some (ob) ∧ w.cell? ⟨B, 10, none⟩ = some (.int .u64 (s : Int)) ∧ w.cell? ⟨B, 11, none⟩ = some (rg) ∧ w.cell? ⟨B, 12, none⟩ = some (pg) ∧ w.cell? ⟨B, 13, none⟩ = some (pk) := by
  obtain ⟨x0, x1, x2, x3, x4, x5, x6, x7⟩ := k.all
  obtain ⟨y0, y1, y2, y3, y4, y5⟩ := k.all2
  exact ⟨x0, x1, x2, x3, x4, x5, x6, x7, y0, y1, y2, y3, y4, y5⟩
theorem belowD {n : Nat} {a b : World} (h : Below n a b) : Below n a b.drew := ⟨h.os, h.tape, h.output, h.size, h.block⟩
theorem pWithin_int (n a b : Int) (w : World) : Calls Tryz.prog 143 #[.int .i64 n, .int .i64 a, .int .i64 b] w fun e w' => e = .returned (.bool (inP n a b)) ∧ w' = w := by
  by_cases h : a ≤ n <;> by_cases k : n ≤ b
  all_goals
    have HF := hide (show inP n a b = _ by simp only [inP, h, k, and_self, and_true, and_false, decide_true, decide_false]; rfl)
    go_enter Tryz.func143, Tryz.ntmps143
    go_wp2
    go_ret
    exact ⟨ret_bool HF.out.symm, rfl⟩
theorem pWithin_int64 (n a b : Int) (w : World) : Calls Tryz.prog 144 #[.int .i64 n, .int .i64 a, .int .i64 b] w fun e w' => e = .returned (.bool (inP n a b)) ∧ w' = w := by
  by_cases h : a ≤ n <;> by_cases k : n ≤ b
  all_goals
    have HF := hide (show inP n a b = _ by simp only [inP, h, k, and_self, and_true, and_false, decide_true, decide_false]; rfl)
    go_enter Tryz.func144, Tryz.ntmps144
    go_wp2
    go_ret
    exact ⟨ret_bool HF.out.symm, rfl⟩
set_option maxRecDepth 100000 in
set_option maxHeartbeats 8000000 in
theorem pNums_any (a b c d e f g h n : Int) (ob : Value) (s : Nat) (rg pg pk : Value) (w : World) (B : Bool) (hB : (inP a 1 16 && (inP b 0 16 && (inP c 1 16 && (inP d 1 8 && (inP e 1 8 && (inP g 0 1000000 && inP h 0 1000000)))))) = B) :
    Calls Tryz.prog 104 #[planV a b c d e f g h n ob s rg pg pk] w fun x w' => x = .returned (.bool B) ∧ Below w.heap.size w w' := by
  obtain ⟨w1, e1, hb1, hs1, X⟩ := bp_new w a b c d e f g h n ob s rg pg pk 30
  have HX := hide X
  have HE := hide e1
  have HB1 := hide hb1
  obtain ⟨x0, x1, x2, x3, x4, x5, x6, x7⟩ := X.all
  obtain ⟨x8, x9, xa, xb, xc, xd⟩ := X.all2
  clear e1 X hb1 hs1
  cases k0 : inP a 1 16
  · have K0 := hide k0
    clear k0
    have HF := hide (show B = false by rw [← hB, K0.out]; rfl)
    clear hB
    unfold planV
    go_enter Tryz.func104, Tryz.ntmps104
    go_wp2_with fail
    rw [HE.out]
    (with_reducible refine (pWithin_int a 1 16 _).mono ?_)
    rintro x w2 ⟨rfl, hw2⟩
    obtain rfl := hw2.symm
    rw [K0.out]
    go_wp2
    go_ret
    exact ⟨ret_bool HF.out.symm, HB1.out⟩
  have K0 := hide k0
  clear k0
  cases k1 : inP b 0 16
  · have K1 := hide k1
    clear k1
    have HF := hide (show B = false by rw [← hB, K0.out, K1.out]; rfl)
    clear hB
    unfold planV
    go_enter Tryz.func104, Tryz.ntmps104
    go_wp2_with fail
    rw [HE.out]
    (with_reducible refine (pWithin_int a 1 16 _).mono ?_)
    rintro x w2 ⟨rfl, hw2⟩
    obtain rfl := hw2.symm
    rw [K0.out]
    go_wp2_with fail
    (with_reducible refine (pWithin_int b 0 16 _).mono ?_)
    rintro x w2 ⟨rfl, hw2⟩
    obtain rfl := hw2.symm
    rw [K1.out]
    go_wp2
    go_ret
    exact ⟨ret_bool HF.out.symm, HB1.out⟩
  have K1 := hide k1
  clear k1
  cases k2 : inP c 1 16
  · have K2 := hide k2
    clear k2
    have HF := hide (show B = false by rw [← hB, K0.out, K1.out, K2.out]; rfl)
    clear hB
    unfold planV
    go_enter Tryz.func104, Tryz.ntmps104
    go_wp2_with fail
    rw [HE.out]
    (with_reducible refine (pWithin_int a 1 16 _).mono ?_)
    rintro x w2 ⟨rfl, hw2⟩
    obtain rfl := hw2.symm
    rw [K0.out]
    go_wp2_with fail
    (with_reducible refine (pWithin_int b 0 16 _).mono ?_)
    rintro x w2 ⟨rfl, hw2⟩
    obtain rfl := hw2.symm
    rw [K1.out]
    go_wp2_with fail
    (with_reducible refine (pWithin_int c 1 16 _).mono ?_)
    rintro x w2 ⟨rfl, hw2⟩
    obtain rfl := hw2.symm
    rw [K2.out]
    go_wp2
    go_ret
    exact ⟨ret_bool HF.out.symm, HB1.out⟩
  have K2 := hide k2
  clear k2
  cases k3 : inP d 1 8
  · have K3 := hide k3
    clear k3
    have HF := hide (show B = false by rw [← hB, K0.out, K1.out, K2.out, K3.out]; rfl)
    clear hB
    unfold planV
    go_enter Tryz.func104, Tryz.ntmps104
    go_wp2_with fail
    rw [HE.out]
    (with_reducible refine (pWithin_int a 1 16 _).mono ?_)
    rintro x w2 ⟨rfl, hw2⟩
    obtain rfl := hw2.symm
    rw [K0.out]
    go_wp2_with fail
    (with_reducible refine (pWithin_int b 0 16 _).mono ?_)
    rintro x w2 ⟨rfl, hw2⟩
    obtain rfl := hw2.symm
    rw [K1.out]
    go_wp2_with fail
    (with_reducible refine (pWithin_int c 1 16 _).mono ?_)
    rintro x w2 ⟨rfl, hw2⟩
    obtain rfl := hw2.symm
    rw [K2.out]
    go_wp2_with fail
    (with_reducible refine (pWithin_int d 1 8 _).mono ?_)
    rintro x w2 ⟨rfl, hw2⟩
    obtain rfl := hw2.symm
    rw [K3.out]
    go_wp2
    go_ret
    exact ⟨ret_bool HF.out.symm, HB1.out⟩
  have K3 := hide k3
  clear k3
  cases k4 : inP e 1 8
  · have K4 := hide k4
    clear k4
    have HF := hide (show B = false by rw [← hB, K0.out, K1.out, K2.out, K3.out, K4.out]; rfl)
    clear hB
    unfold planV
    go_enter Tryz.func104, Tryz.ntmps104
    go_wp2_with fail
    rw [HE.out]
    (with_reducible refine (pWithin_int a 1 16 _).mono ?_)
    rintro x w2 ⟨rfl, hw2⟩
    obtain rfl := hw2.symm
    rw [K0.out]
    go_wp2_with fail
    (with_reducible refine (pWithin_int b 0 16 _).mono ?_)
    rintro x w2 ⟨rfl, hw2⟩
    obtain rfl := hw2.symm
    rw [K1.out]
    go_wp2_with fail
    (with_reducible refine (pWithin_int c 1 16 _).mono ?_)
    rintro x w2 ⟨rfl, hw2⟩
    obtain rfl := hw2.symm
    rw [K2.out]
    go_wp2_with fail
    (with_reducible refine (pWithin_int d 1 8 _).mono ?_)
    rintro x w2 ⟨rfl, hw2⟩
    obtain rfl := hw2.symm
    rw [K3.out]
    go_wp2_with fail
    (with_reducible refine (pWithin_int e 1 8 _).mono ?_)
    rintro x w2 ⟨rfl, hw2⟩
    obtain rfl := hw2.symm
    rw [K4.out]
    go_wp2
    go_ret
    exact ⟨ret_bool HF.out.symm, HB1.out⟩
  have K4 := hide k4
  clear k4
  cases k5 : inP g 0 1000000
  · have K5 := hide k5
    clear k5
    have HF := hide (show B = false by rw [← hB, K0.out, K1.out, K2.out, K3.out, K4.out, K5.out]; rfl)
    clear hB
    unfold planV
    go_enter Tryz.func104, Tryz.ntmps104
    go_wp2_with fail
    rw [HE.out]
    (with_reducible refine (pWithin_int a 1 16 _).mono ?_)
    rintro x w2 ⟨rfl, hw2⟩
    obtain rfl := hw2.symm
    rw [K0.out]
    go_wp2_with fail
    (with_reducible refine (pWithin_int b 0 16 _).mono ?_)
    rintro x w2 ⟨rfl, hw2⟩
    obtain rfl := hw2.symm
    rw [K1.out]
    go_wp2_with fail
    (with_reducible refine (pWithin_int c 1 16 _).mono ?_)
    rintro x w2 ⟨rfl, hw2⟩
    obtain rfl := hw2.symm
    rw [K2.out]
    go_wp2_with fail
    (with_reducible refine (pWithin_int d 1 8 _).mono ?_)
    rintro x w2 ⟨rfl, hw2⟩
    obtain rfl := hw2.symm
    rw [K3.out]
    go_wp2_with fail
    (with_reducible refine (pWithin_int e 1 8 _).mono ?_)
    rintro x w2 ⟨rfl, hw2⟩
    obtain rfl := hw2.symm
    rw [K4.out]
    go_wp2_with fail
    (with_reducible refine (pWithin_int64 g 0 1000000 _).mono ?_)
    rintro x w2 ⟨rfl, hw2⟩
    obtain rfl := hw2.symm
    rw [K5.out]
    go_wp2
    go_ret
    exact ⟨ret_bool HF.out.symm, HB1.out⟩
  have K5 := hide k5
  clear k5
  cases k6 : inP h 0 1000000
  · have K6 := hide k6
    clear k6
    have HF := hide (show B = false by rw [← hB, K0.out, K1.out, K2.out, K3.out, K4.out, K5.out, K6.out]; rfl)
    clear hB
    unfold planV
    go_enter Tryz.func104, Tryz.ntmps104
    go_wp2_with fail
    rw [HE.out]
    (with_reducible refine (pWithin_int a 1 16 _).mono ?_)
    rintro x w2 ⟨rfl, hw2⟩
    obtain rfl := hw2.symm
    rw [K0.out]
    go_wp2_with fail
    (with_reducible refine (pWithin_int b 0 16 _).mono ?_)
    rintro x w2 ⟨rfl, hw2⟩
    obtain rfl := hw2.symm
    rw [K1.out]
    go_wp2_with fail
    (with_reducible refine (pWithin_int c 1 16 _).mono ?_)
    rintro x w2 ⟨rfl, hw2⟩
    obtain rfl := hw2.symm
    rw [K2.out]
    go_wp2_with fail
    (with_reducible refine (pWithin_int d 1 8 _).mono ?_)
    rintro x w2 ⟨rfl, hw2⟩
    obtain rfl := hw2.symm
    rw [K3.out]
    go_wp2_with fail
    (with_reducible refine (pWithin_int e 1 8 _).mono ?_)
    rintro x w2 ⟨rfl, hw2⟩
    obtain rfl := hw2.symm
    rw [K4.out]
    go_wp2_with fail
    (with_reducible refine (pWithin_int64 g 0 1000000 _).mono ?_)
    rintro x w2 ⟨rfl, hw2⟩
    obtain rfl := hw2.symm
    rw [K5.out]
    go_wp2_with fail
    (with_reducible refine (pWithin_int64 h 0 1000000 _).mono ?_)
    rintro x w2 ⟨rfl, hw2⟩
    obtain rfl := hw2.symm
    rw [K6.out]
    go_wp2
    go_ret
    exact ⟨ret_bool HF.out.symm, HB1.out⟩
  have K6 := hide k6
  clear k6
  have HF := hide (show B = true by rw [← hB, K0.out, K1.out, K2.out, K3.out, K4.out, K5.out, K6.out]; rfl)
  clear hB
  unfold planV
  go_enter Tryz.func104, Tryz.ntmps104
  go_wp2_with fail
  rw [HE.out]
  (with_reducible refine (pWithin_int a 1 16 _).mono ?_)
  rintro x w2 ⟨rfl, hw2⟩
  obtain rfl := hw2.symm
  rw [K0.out]
  go_wp2_with fail
  (with_reducible refine (pWithin_int b 0 16 _).mono ?_)
  rintro x w2 ⟨rfl, hw2⟩
  obtain rfl := hw2.symm
  rw [K1.out]
  go_wp2_with fail
  (with_reducible refine (pWithin_int c 1 16 _).mono ?_)
  rintro x w2 ⟨rfl, hw2⟩
  obtain rfl := hw2.symm
  rw [K2.out]
  go_wp2_with fail
  (with_reducible refine (pWithin_int d 1 8 _).mono ?_)
  rintro x w2 ⟨rfl, hw2⟩
  obtain rfl := hw2.symm
  rw [K3.out]
  go_wp2_with fail
  (with_reducible refine (pWithin_int e 1 8 _).mono ?_)
  rintro x w2 ⟨rfl, hw2⟩
  obtain rfl := hw2.symm
  rw [K4.out]
  go_wp2_with fail
  (with_reducible refine (pWithin_int64 g 0 1000000 _).mono ?_)
  rintro x w2 ⟨rfl, hw2⟩
  obtain rfl := hw2.symm
  rw [K5.out]
  go_wp2_with fail
  (with_reducible refine (pWithin_int64 h 0 1000000 _).mono ?_)
  rintro x w2 ⟨rfl, hw2⟩
  obtain rfl := hw2.symm
  rw [K6.out]
  go_wp2
  go_ret
  exact ⟨ret_bool HF.out.symm, HB1.out⟩
set_option maxRecDepth 100000 in
set_option maxHeartbeats 8000000 in
theorem pPicks_any (a b c d e f g h n : Int) (ob : Value) (s : Nat) (rg pg pk : Value) (lk : List PP) (w : World) (hk : Picks w pk lk) (B : Bool) (hB : (decide (lk.length ≤ 100000) && lk.all fun x => there x a b) = B) :
    Calls Tryz.prog 107 #[planV a b c d e f g h n ob s rg pg pk] w fun x w' => x = .returned (.bool B) ∧ Below w.heap.size w w' := by
  have HK := hide hk
  obtain ⟨Ak, mk, rfl, hk1, hk2, -⟩ := id hk
  unfold maxLen at hk2
  clear hk
  obtain ⟨w1, e1, hb1, hs1, X⟩ := bp_new w a b c d e f g h n ob s rg pg (.slice Ak lk.length mk) 30
  have HX := hide X
  have HE := hide e1
  have HB1 := hide hb1
  obtain ⟨x0, x1, x2, x3, x4, x5, x6, x7⟩ := X.all
  obtain ⟨x8, x9, xa, xb, xc, xd⟩ := X.all2
  clear e1 X hb1 hs1
  by_cases hl : lk.length ≤ 100000
  · have hd : decide ((lk.length : Int) ≤ 100000) = true := decide_eq_true (by omega)
    have HF := hide (show (lk.all fun x => there x a b) = B by rw [← hB, decide_eq_true hl]; rfl)
    clear hB hl
    unfold planV
    go_enter Tryz.func107, Tryz.ntmps107
    go_wp2_with fail
    rw [HE.out]
    (with_reducible refine (Known_any _ lk a b _ (HK.out.below HB1.out)).mono ?_)
    rintro x w3 ⟨rfl, hb3⟩
    rw [HF.out]
    go_wp2
    go_ret
    exact ⟨rfl, bcall HB1.out hb3⟩
  · have hd : decide ((lk.length : Int) ≤ 100000) = false := decide_eq_false (by omega)
    have HF := hide (show B = false by rw [← hB, decide_eq_false hl]; rfl)
    clear hB hl
    unfold planV
    go_enter Tryz.func107, Tryz.ntmps107
    go_wp2_with fail
    go_ret
    exact ⟨ret_bool HF.out.symm, by first | exact HB1.out | (rw [HE.out]; exact HB1.out)⟩
set_option maxRecDepth 100000 in
set_option maxHeartbeats 8000000 in
theorem pRegs_any (v : Value) (l : List Int) (m : Int) (ob : Value) (lo : Rws) (w : World) (h : Ints w v l) (ho : Grid w ob lo) (B : Bool) (hB : regsF lo.length l = B) :
    Calls Tryz.prog 147 #[v, hv m ob] w fun x w' => x = .returned (.bool B) ∧ Below w.heap.size w w' := by
  have HI := hide h
  obtain ⟨A, k, rfl, hm1, hm2, -⟩ := id h
  obtain ⟨Ao, ko, rfl, ho1, ho2⟩ := ho.form
  unfold maxLen at hm2 ho2
  clear h ho
  obtain ⟨w1, e1, hb1, hs1, X⟩ := b2_new w (.int .i64 m) (.slice Ao lo.length ko) 24
  have HE := hide e1
  have HB1 := hide hb1
  have HI1 := hide (HI.out.below hb1)
  obtain ⟨x0, x1⟩ := X.all
  clear e1 X hb1 hs1
  have HB := hide hB
  clear hB
  cases k0 : inP l.length 1 4
  · have K0 := hide k0
    have HF := hide (show B = false by rw [← HB.out]; unfold regsF; unfold inP at k0; rw [Bool.and_eq_false_iff]; right; rw [decide_eq_false_iff_not] at k0 ⊢; omega)
    clear k0
    go_enter Tryz.func147, Tryz.ntmps147
    go_wp2_with fail
    rw [HE.out]
    (with_reducible refine (pWithin_int _ 1 4 _).mono ?_)
    rintro x w2 ⟨rfl, hw2⟩
    obtain rfl := hw2.symm
    rw [K0.out]
    go_wp2
    go_ret
    exact ⟨ret_bool HF.out.symm, HB1.out⟩
  have K0 := hide k0
  clear k0
  go_enter Tryz.func147, Tryz.ntmps147
  go_wp2_with fail
  rw [HE.out]
  (with_reducible refine (pWithin_int _ 1 4 _).mono ?_)
  rintro x w2 ⟨rfl, hw2⟩
  obtain rfl := hw2.symm
  rw [K0.out]
  go_wp2_with fail
  go_loopw [13] (fun iv wr => ∃ i : Nat, i ≤ l.length ∧ iv = .int .i64 i ∧ wr = w1 ∧ Hid ((l.take i).all (fun x => decide (0 ≤ x ∧ x ≤ (lo.length : Int))) = true)) (fun iv _ => l.length - (Go.RowKit.intOf iv).toNat)
  case atStart => exact ⟨0, Nat.zero_le _, rfl, rfl, hide rfl⟩
  case round =>
    obtain ⟨i, hi, rfl, hwr, HK⟩ := hrel
    obtain rfl := hwr
    by_cases hlt : i < l.length
    · obtain ⟨b, off, rfl, -, hc⟩ := ints_at HI1.out hlt
      have hn := regs_take hlt HK.out
      have hs := regs_stop (n := lo.length) hlt
      generalize l[i] = x at *
      cases hin : inP x 0 lo.length
      · have HS := hide (show B = false by rw [← HB.out]; exact hs hin)
        have H1 := hide hin
        clear hn hs hin
        go_wp2_with fail
        (with_reducible refine (pWithin_int x 0 lo.length _).mono ?_)
        rintro e w2 ⟨rfl, hw2⟩
        obtain rfl := hw2.symm
        rw [H1.out]
        go_wp2
        go_ret
        exact ⟨ret_bool HS.out.symm, HB1.out⟩
      · have HN := hide (hn.trans hin)
        have H1 := hide hin
        clear hn hs hin
        go_wp2_with fail
        (with_reducible refine (pWithin_int x 0 lo.length _).mono ?_)
        rintro e w2 ⟨rfl, hw2⟩
        obtain rfl := hw2.symm
        rw [H1.out]
        go_wp2
        go_roundw
        case rel => exact ⟨i + 1, by omega, by go_num, trivial, HN⟩
        case measure => simp [Go.RowKit.intOf]; omega
    · have HF := hide (show B = true by rw [← HB.out, regs_end (n := lo.length) (l := l) (by have := HK.out; rwa [List.take_of_length_le (by omega)] at this)]; exact K0.out)
      go_wp2
      go_ret
      exact ⟨ret_bool HF.out.symm, HB1.out⟩
set_option maxRecDepth 100000 in
set_option maxHeartbeats 8000000 in
theorem pHeap_any (a b c d e f g h n : Int) (ob : Value) (s : Nat) (rg pg pk : Value) (lo : Rws) (w : World) (hs : s < 18446744073709551616) (ho : Grid w ob lo) (B : Bool) (hB : (rightF n lo && (inP f lo.length 64 && underF s (firstF lo.length))) = B) :
    Calls Tryz.prog 105 #[planV a b c d e f g h n ob s rg pg pk] w fun x w' => x = .returned (.bool B) ∧ Below w.heap.size w w' := by
  have HO := hide ho
  have HS := hide hs
  obtain ⟨A, m, rfl, hm1, hm2⟩ := ho.form
  unfold maxLen at hm2
  clear ho hs
  obtain ⟨w1, e1, hb1, hs1, X⟩ := bp_new w a b c d e f g h n (.slice A lo.length m) s rg pg pk 30
  have HX := hide X
  have HE := hide e1
  have HB1 := hide hb1
  obtain ⟨x0, x1, x2, x3, x4, x5, x6, x7⟩ := X.all
  obtain ⟨x8, x9, xa, xb, xc, xd⟩ := X.all2
  clear e1 X hb1 hs1
  have HO1 := hide (HO.out.below HB1.out)
  cases q0 : rightF n lo
  · have Q0 := hide q0
    clear q0
    have HF := hide (show B = false by rw [← hB, Q0.out]; rfl)
    clear hB
    unfold planV
    go_enter Tryz.func105, Tryz.ntmps105
    go_wp2
    rw [HE.out]
    go_wp2
    refine wp_region_held_drew (S := fun w' => w'.cell? ⟨w.heap.size, 0, none⟩ = some (.int .i64 a) ∧ w'.cell? ⟨w.heap.size, 1, none⟩ = some (.int .i64 b) ∧ w'.cell? ⟨w.heap.size, 2, none⟩ = some (.int .i64 c) ∧ w'.cell? ⟨w.heap.size, 3, none⟩ = some (.int .i64 d) ∧ w'.cell? ⟨w.heap.size, 4, none⟩ = some (.int .i64 e) ∧ w'.cell? ⟨w.heap.size, 5, none⟩ = some (.int .i64 f) ∧ w'.cell? ⟨w.heap.size, 6, none⟩ = some (.int .i64 g) ∧ w'.cell? ⟨w.heap.size, 7, none⟩ = some (.int .i64 h) ∧ w'.cell? ⟨w.heap.size, 8, none⟩ = some (.int .i64 n) ∧ w'.cell? ⟨w.heap.size, 9, none⟩ = some (.slice A lo.length m) ∧ w'.cell? ⟨w.heap.size, 10, none⟩ = some (.int .u64 (s : Int)) ∧ w'.cell? ⟨w.heap.size, 11, none⟩ = some (rg) ∧ w'.cell? ⟨w.heap.size, 12, none⟩ = some (pg) ∧ w'.cell? ⟨w.heap.size, 13, none⟩ = some (pk)) (by kernel_rfl) ?_ (fun hHeld => ?_)
    · exact (by first | (with_reducible exact HX.out.drew.cells) | (with_reducible exact (HX.out.drew.below hb3).cells) | exact HX.out.drew.cells | exact (HX.out.drew.below hb3).cells)
    refine tk 0 (h := ?_)
    refine tk 1 (h := ?_)
    refine wpAnyH_ready (rs := [2]) (by kernel_rfl) (by simp) ?_
    refine AllReadyH.cons rfl (fun K hK => ?_) AllReadyH.nil
    go_simp
    go_at_call 145
    (with_reducible refine (Right_cHp n _ lo _ (HO1.out.below (belowD (Below.refl _ _))) false Q0.out).mono ?_)
    rintro x w3 ⟨rfl, hb3⟩
    (try go_simp)
    refine hK.out _ _ (by first | (with_reducible exact HX.out.drew.cells) | (with_reducible exact (HX.out.drew.below hb3).cells) | exact HX.out.drew.cells | exact (HX.out.drew.below hb3).cells) (fun hHeld => ?_)
    (try simp only [Act.put, List.setIfInBounds_toArray, List.set_cons_zero, List.set_cons_succ])
    refine tk 3 (h := ?_)
    refine tu 4 (h := ?_)
    refine tu 5 (h := ?_)
    refine tu 6 (h := ?_)
    refine tu 7 (h := ?_)
    refine tk 8 (h := ?_)
    refine tk 9 (h := ?_)
    refine tu 10 (h := ?_)
    refine tu 11 (h := ?_)
    refine tu 12 (h := ?_)
    refine tu 13 (h := ?_)
    refine tu 14 (h := ?_)
    refine tk 15 (h := ?_)
    refine tk 16 (h := ?_)
    refine wpAnyH_done (by kernel_rfl) ?_ _
    go_wp2
    go_ret
    exact ⟨ret_bool HF.out.symm, bcall (belowD HB1.out) hb3⟩
  have Q0 := hide q0
  clear q0
  cases q1 : inP f lo.length 64
  · have Q1 := hide q1
    clear q1
    have HF := hide (show B = false by rw [← hB, Q0.out, Q1.out]; rfl)
    clear hB
    unfold planV
    go_enter Tryz.func105, Tryz.ntmps105
    go_wp2
    rw [HE.out]
    go_wp2
    refine wp_region_held_drew (S := fun w' => w'.cell? ⟨w.heap.size, 0, none⟩ = some (.int .i64 a) ∧ w'.cell? ⟨w.heap.size, 1, none⟩ = some (.int .i64 b) ∧ w'.cell? ⟨w.heap.size, 2, none⟩ = some (.int .i64 c) ∧ w'.cell? ⟨w.heap.size, 3, none⟩ = some (.int .i64 d) ∧ w'.cell? ⟨w.heap.size, 4, none⟩ = some (.int .i64 e) ∧ w'.cell? ⟨w.heap.size, 5, none⟩ = some (.int .i64 f) ∧ w'.cell? ⟨w.heap.size, 6, none⟩ = some (.int .i64 g) ∧ w'.cell? ⟨w.heap.size, 7, none⟩ = some (.int .i64 h) ∧ w'.cell? ⟨w.heap.size, 8, none⟩ = some (.int .i64 n) ∧ w'.cell? ⟨w.heap.size, 9, none⟩ = some (.slice A lo.length m) ∧ w'.cell? ⟨w.heap.size, 10, none⟩ = some (.int .u64 (s : Int)) ∧ w'.cell? ⟨w.heap.size, 11, none⟩ = some (rg) ∧ w'.cell? ⟨w.heap.size, 12, none⟩ = some (pg) ∧ w'.cell? ⟨w.heap.size, 13, none⟩ = some (pk)) (by kernel_rfl) ?_ (fun hHeld => ?_)
    · exact (by first | (with_reducible exact HX.out.drew.cells) | (with_reducible exact (HX.out.drew.below hb3).cells) | exact HX.out.drew.cells | exact (HX.out.drew.below hb3).cells)
    refine tk 0 (h := ?_)
    refine tk 1 (h := ?_)
    refine wpAnyH_ready (rs := [2]) (by kernel_rfl) (by simp) ?_
    refine AllReadyH.cons rfl (fun K hK => ?_) AllReadyH.nil
    go_simp
    go_at_call 145
    (with_reducible refine (Right_cHp n _ lo _ (HO1.out.below (belowD (Below.refl _ _))) true Q0.out).mono ?_)
    rintro x w3 ⟨rfl, hb3⟩
    (try go_simp)
    refine hK.out _ _ (by first | (with_reducible exact HX.out.drew.cells) | (with_reducible exact (HX.out.drew.below hb3).cells) | exact HX.out.drew.cells | exact (HX.out.drew.below hb3).cells) (fun hHeld => ?_)
    (try simp only [Act.put, List.setIfInBounds_toArray, List.set_cons_zero, List.set_cons_succ])
    refine tk 3 (h := ?_)
    refine tk 4 (h := ?_)
    refine tk 5 (h := ?_)
    refine tk 6 (h := ?_)
    refine wpAnyH_ready (rs := [7]) (by kernel_rfl) (by simp) ?_
    refine AllReadyH.cons rfl (fun K hK => ?_) AllReadyH.nil
    go_simp
    go_at_call 143
    (with_reducible refine (pWithin_int f lo.length 64 _).mono ?_)
    rintro x w4 ⟨rfl, hw4⟩
    obtain rfl := hw4.symm
    rw [Q1.out]
    (try go_simp)
    refine hK.out _ _ (by first | (with_reducible exact HX.out.drew.cells) | (with_reducible exact (HX.out.drew.below hb3).cells) | exact HX.out.drew.cells | exact (HX.out.drew.below hb3).cells) (fun hHeld => ?_)
    (try simp only [Act.put, List.setIfInBounds_toArray, List.set_cons_zero, List.set_cons_succ])
    refine tk 8 (h := ?_)
    refine tk 9 (h := ?_)
    refine tu 10 (h := ?_)
    refine tu 11 (h := ?_)
    refine tu 12 (h := ?_)
    refine tu 13 (h := ?_)
    refine tu 14 (h := ?_)
    refine tk 15 (h := ?_)
    refine tk 16 (h := ?_)
    refine wpAnyH_done (by kernel_rfl) ?_ _
    go_wp2
    go_ret
    exact ⟨ret_bool HF.out.symm, bcall (belowD HB1.out) hb3⟩
  have Q1 := hide q1
  clear q1
  cases q2 : underF s (firstF lo.length)
  · have Q2 := hide q2
    clear q2
    have HF := hide (show B = false by rw [← hB, Q0.out, Q1.out, Q2.out]; rfl)
    clear hB
    unfold planV
    go_enter Tryz.func105, Tryz.ntmps105
    go_wp2
    rw [HE.out]
    go_wp2
    refine wp_region_held_drew (S := fun w' => w'.cell? ⟨w.heap.size, 0, none⟩ = some (.int .i64 a) ∧ w'.cell? ⟨w.heap.size, 1, none⟩ = some (.int .i64 b) ∧ w'.cell? ⟨w.heap.size, 2, none⟩ = some (.int .i64 c) ∧ w'.cell? ⟨w.heap.size, 3, none⟩ = some (.int .i64 d) ∧ w'.cell? ⟨w.heap.size, 4, none⟩ = some (.int .i64 e) ∧ w'.cell? ⟨w.heap.size, 5, none⟩ = some (.int .i64 f) ∧ w'.cell? ⟨w.heap.size, 6, none⟩ = some (.int .i64 g) ∧ w'.cell? ⟨w.heap.size, 7, none⟩ = some (.int .i64 h) ∧ w'.cell? ⟨w.heap.size, 8, none⟩ = some (.int .i64 n) ∧ w'.cell? ⟨w.heap.size, 9, none⟩ = some (.slice A lo.length m) ∧ w'.cell? ⟨w.heap.size, 10, none⟩ = some (.int .u64 (s : Int)) ∧ w'.cell? ⟨w.heap.size, 11, none⟩ = some (rg) ∧ w'.cell? ⟨w.heap.size, 12, none⟩ = some (pg) ∧ w'.cell? ⟨w.heap.size, 13, none⟩ = some (pk)) (by kernel_rfl) ?_ (fun hHeld => ?_)
    · exact (by first | (with_reducible exact HX.out.drew.cells) | (with_reducible exact (HX.out.drew.below hb3).cells) | exact HX.out.drew.cells | exact (HX.out.drew.below hb3).cells)
    refine tk 0 (h := ?_)
    refine tk 1 (h := ?_)
    refine wpAnyH_ready (rs := [2]) (by kernel_rfl) (by simp) ?_
    refine AllReadyH.cons rfl (fun K hK => ?_) AllReadyH.nil
    go_simp
    go_at_call 145
    (with_reducible refine (Right_cHp n _ lo _ (HO1.out.below (belowD (Below.refl _ _))) true Q0.out).mono ?_)
    rintro x w3 ⟨rfl, hb3⟩
    (try go_simp)
    refine hK.out _ _ (by first | (with_reducible exact HX.out.drew.cells) | (with_reducible exact (HX.out.drew.below hb3).cells) | exact HX.out.drew.cells | exact (HX.out.drew.below hb3).cells) (fun hHeld => ?_)
    (try simp only [Act.put, List.setIfInBounds_toArray, List.set_cons_zero, List.set_cons_succ])
    refine tk 3 (h := ?_)
    refine tk 4 (h := ?_)
    refine tk 5 (h := ?_)
    refine tk 6 (h := ?_)
    refine wpAnyH_ready (rs := [7]) (by kernel_rfl) (by simp) ?_
    refine AllReadyH.cons rfl (fun K hK => ?_) AllReadyH.nil
    go_simp
    go_at_call 143
    (with_reducible refine (pWithin_int f lo.length 64 _).mono ?_)
    rintro x w4 ⟨rfl, hw4⟩
    obtain rfl := hw4.symm
    rw [Q1.out]
    (try go_simp)
    refine hK.out _ _ (by first | (with_reducible exact HX.out.drew.cells) | (with_reducible exact (HX.out.drew.below hb3).cells) | exact HX.out.drew.cells | exact (HX.out.drew.below hb3).cells) (fun hHeld => ?_)
    (try simp only [Act.put, List.setIfInBounds_toArray, List.set_cons_zero, List.set_cons_succ])
    refine tk 8 (h := ?_)
    refine tk 9 (h := ?_)
    refine tk 10 (h := ?_)
    refine tk 11 (h := ?_)
    refine tk 12 (h := ?_)
    refine wpAnyH_ready (rs := [13]) (by kernel_rfl) (by simp) ?_
    refine AllReadyH.cons rfl (fun K hK => ?_) AllReadyH.nil
    go_simp
    go_at_call 31
    (with_reducible refine (First_any lo.length _ (by omega) (by omega)).mono ?_)
    rintro x w4 ⟨rfl, hw4⟩
    obtain rfl := hw4.symm
    (try go_simp)
    refine hK.out _ _ (by first | (with_reducible exact HX.out.drew.cells) | (with_reducible exact (HX.out.drew.below hb3).cells) | exact HX.out.drew.cells | exact (HX.out.drew.below hb3).cells) (fun hHeld => ?_)
    (try simp only [Act.put, List.setIfInBounds_toArray, List.set_cons_zero, List.set_cons_succ])
    refine wpAnyH_ready (rs := [14]) (by kernel_rfl) (by simp) ?_
    refine AllReadyH.cons rfl (fun K hK => ?_) AllReadyH.nil
    go_simp
    go_at_call 146
    (with_reducible refine (Under_any s _ _ HS.out (first_lt _)).mono ?_)
    rintro x w4 ⟨rfl, hw4⟩
    obtain rfl := hw4.symm
    rw [Q2.out]
    (try go_simp)
    refine hK.out _ _ (by first | (with_reducible exact HX.out.drew.cells) | (with_reducible exact (HX.out.drew.below hb3).cells) | exact HX.out.drew.cells | exact (HX.out.drew.below hb3).cells) (fun hHeld => ?_)
    (try simp only [Act.put, List.setIfInBounds_toArray, List.set_cons_zero, List.set_cons_succ])
    refine tk 15 (h := ?_)
    refine tk 16 (h := ?_)
    refine wpAnyH_done (by kernel_rfl) ?_ _
    go_wp2
    go_ret
    exact ⟨ret_bool HF.out.symm, bcall (belowD HB1.out) hb3⟩
  have Q2 := hide q2
  clear q2
  have HF := hide (show B = true by rw [← hB, Q0.out, Q1.out, Q2.out]; rfl)
  clear hB
  unfold planV
  go_enter Tryz.func105, Tryz.ntmps105
  go_wp2
  rw [HE.out]
  go_wp2
  refine wp_region_held_drew (S := fun w' => w'.cell? ⟨w.heap.size, 0, none⟩ = some (.int .i64 a) ∧ w'.cell? ⟨w.heap.size, 1, none⟩ = some (.int .i64 b) ∧ w'.cell? ⟨w.heap.size, 2, none⟩ = some (.int .i64 c) ∧ w'.cell? ⟨w.heap.size, 3, none⟩ = some (.int .i64 d) ∧ w'.cell? ⟨w.heap.size, 4, none⟩ = some (.int .i64 e) ∧ w'.cell? ⟨w.heap.size, 5, none⟩ = some (.int .i64 f) ∧ w'.cell? ⟨w.heap.size, 6, none⟩ = some (.int .i64 g) ∧ w'.cell? ⟨w.heap.size, 7, none⟩ = some (.int .i64 h) ∧ w'.cell? ⟨w.heap.size, 8, none⟩ = some (.int .i64 n) ∧ w'.cell? ⟨w.heap.size, 9, none⟩ = some (.slice A lo.length m) ∧ w'.cell? ⟨w.heap.size, 10, none⟩ = some (.int .u64 (s : Int)) ∧ w'.cell? ⟨w.heap.size, 11, none⟩ = some (rg) ∧ w'.cell? ⟨w.heap.size, 12, none⟩ = some (pg) ∧ w'.cell? ⟨w.heap.size, 13, none⟩ = some (pk)) (by kernel_rfl) ?_ (fun hHeld => ?_)
  · exact (by first | (with_reducible exact HX.out.drew.cells) | (with_reducible exact (HX.out.drew.below hb3).cells) | exact HX.out.drew.cells | exact (HX.out.drew.below hb3).cells)
  refine tk 0 (h := ?_)
  refine tk 1 (h := ?_)
  refine wpAnyH_ready (rs := [2]) (by kernel_rfl) (by simp) ?_
  refine AllReadyH.cons rfl (fun K hK => ?_) AllReadyH.nil
  go_simp
  go_at_call 145
  (with_reducible refine (Right_cHp n _ lo _ (HO1.out.below (belowD (Below.refl _ _))) true Q0.out).mono ?_)
  rintro x w3 ⟨rfl, hb3⟩
  (try go_simp)
  refine hK.out _ _ (by first | (with_reducible exact HX.out.drew.cells) | (with_reducible exact (HX.out.drew.below hb3).cells) | exact HX.out.drew.cells | exact (HX.out.drew.below hb3).cells) (fun hHeld => ?_)
  (try simp only [Act.put, List.setIfInBounds_toArray, List.set_cons_zero, List.set_cons_succ])
  refine tk 3 (h := ?_)
  refine tk 4 (h := ?_)
  refine tk 5 (h := ?_)
  refine tk 6 (h := ?_)
  refine wpAnyH_ready (rs := [7]) (by kernel_rfl) (by simp) ?_
  refine AllReadyH.cons rfl (fun K hK => ?_) AllReadyH.nil
  go_simp
  go_at_call 143
  (with_reducible refine (pWithin_int f lo.length 64 _).mono ?_)
  rintro x w4 ⟨rfl, hw4⟩
  obtain rfl := hw4.symm
  rw [Q1.out]
  (try go_simp)
  refine hK.out _ _ (by first | (with_reducible exact HX.out.drew.cells) | (with_reducible exact (HX.out.drew.below hb3).cells) | exact HX.out.drew.cells | exact (HX.out.drew.below hb3).cells) (fun hHeld => ?_)
  (try simp only [Act.put, List.setIfInBounds_toArray, List.set_cons_zero, List.set_cons_succ])
  refine tk 8 (h := ?_)
  refine tk 9 (h := ?_)
  refine tk 10 (h := ?_)
  refine tk 11 (h := ?_)
  refine tk 12 (h := ?_)
  refine wpAnyH_ready (rs := [13]) (by kernel_rfl) (by simp) ?_
  refine AllReadyH.cons rfl (fun K hK => ?_) AllReadyH.nil
  go_simp
  go_at_call 31
  (with_reducible refine (First_any lo.length _ (by omega) (by omega)).mono ?_)
  rintro x w4 ⟨rfl, hw4⟩
  obtain rfl := hw4.symm
  (try go_simp)
  refine hK.out _ _ (by first | (with_reducible exact HX.out.drew.cells) | (with_reducible exact (HX.out.drew.below hb3).cells) | exact HX.out.drew.cells | exact (HX.out.drew.below hb3).cells) (fun hHeld => ?_)
  (try simp only [Act.put, List.setIfInBounds_toArray, List.set_cons_zero, List.set_cons_succ])
  refine wpAnyH_ready (rs := [14]) (by kernel_rfl) (by simp) ?_
  refine AllReadyH.cons rfl (fun K hK => ?_) AllReadyH.nil
  go_simp
  go_at_call 146
  (with_reducible refine (Under_any s _ _ HS.out (first_lt _)).mono ?_)
  rintro x w4 ⟨rfl, hw4⟩
  obtain rfl := hw4.symm
  rw [Q2.out]
  (try go_simp)
  refine hK.out _ _ (by first | (with_reducible exact HX.out.drew.cells) | (with_reducible exact (HX.out.drew.below hb3).cells) | exact HX.out.drew.cells | exact (HX.out.drew.below hb3).cells) (fun hHeld => ?_)
  (try simp only [Act.put, List.setIfInBounds_toArray, List.set_cons_zero, List.set_cons_succ])
  refine tk 15 (h := ?_)
  refine tk 16 (h := ?_)
  refine wpAnyH_done (by kernel_rfl) ?_ _
  go_wp2
  go_ret
  exact ⟨ret_bool HF.out.symm, bcall (belowD HB1.out) hb3⟩
end Go.Proofs.YtdmbcjckgfjcaaaGreatDoor
/- Layer plan: rows of rows of the call's own; small facts of stores. -/
namespace Go.Proofs.YtdmbcjckgfjcaaaGreatDoor
open Go.RowKit Go.Shelf Go.Proofs Go.Joins
def RowsO (b0 : Nat) (w : World) (vr : List Value) (l : List (List Oq)) : Prop := vr.length = l.length ∧ ∀ (i : Nat) (u : Value) (x : List Oq), vr[i]? = some u → l[i]? = some x → w.ownsRow b0 99 4 u x.length (x.flatMap oq)
theorem set_others (w : World) (B i : Nat) (x : Value) : ∀ b, b ≠ B → (w.setCell ⟨B, i, none⟩ x).heap[b]? = w.heap[b]? := fun b hb => Below.heap_setCell w ⟨B, i, none⟩ x b hb
theorem set_below (w : World) (B i : Nat) (x : Value) : Below B w (w.setCell ⟨B, i, none⟩ x) := (Below.refl _ _).setCell (p := ⟨B, i, none⟩) (Nat.le_refl _) x
theorem infoRw : (Tryz.prog.info? 47).map (fun i => (i.zero, i.size, i.bytes)) = some (some (.slice none 0 0), 1, 24) := by kernel_rfl
theorem infoRo : (Tryz.prog.info? 100).map (fun i => (i.zero, i.size, i.bytes)) = some (some (.slice none 0 0), 1, 24) := by kernel_rfl
theorem infoOqR : (Tryz.prog.info? 99).map (fun i => (i.zero, i.size, i.bytes)) = some (some (.agg #[.int .i64 0, .int .i64 0, .int .i64 0, .int .i64 0]), 4, 32) := by kernel_rfl
section
variable {X : World}
theorem own_apart {b1 b2 : Nat} {t1 t2 : TypeId} {s1 s2 n1 n2 : Nat} {v1 v2 : Value} {x1 x2 : List Value} (h1 : X.ownsRow b1 t1 s1 v1 n1 x1) (h2 : X.ownsRow b2 t2 s2 v2 n2 x2) (hne : t1 ≠ t2) : v1.ownBlock ≠ v2.ownBlock ∨ v1.ownBlock = none := by
  rcases h2.2 with ⟨rfl, _⟩ | ⟨g, cap, cur, rfl, _, hg, _⟩
  · cases e : v1.ownBlock with
    | none => exact .inr rfl
    | some k => exact .inl (by simp [Value.ownBlock])
  · exact .inl (own_type h1 hg hne)
end
end Go.Proofs.YtdmbcjckgfjcaaaGreatDoor
/- Layer plan: a plan by bytes: how its loops go on, as plain facts; what holds while it is made. -/
namespace Go.Proofs.YtdmbcjckgfjcaaaGreatDoor
open Go.RowKit Go.Shelf Go.Proofs Go.Joins
theorem objG_snoc (g : Nat → Int) (n : Int) (k i : Nat) : objG g n (k + 1) i = objG g n k i ++ [g (i + k) % (n + 1)] := by
  unfold objG; rw [List.range_succ, List.map_append]; rfl
theorem objsG_snoc (g : Nat → Int) (n : Int) (s : Nat) : ∀ (k i : Nat), objsG g n s (k + 1) i = objsG g n s k i ++ [objG g n s (i + k * s)]
  | 0, i => by simp [objsG]
  | k + 1, i => by
    rw [objsG, objsG_snoc g n s k (i + s)]
    rw [show objsG g n s (k + 1) i = objG g n s i :: objsG g n s k (i + s) from rfl, List.cons_append]
    rw [show i + s + k * s = i + (k + 1) * s by rw [Nat.add_mul]; omega]
theorem mutsG_snoc (g : Nat → Int) (n sl : Int) : ∀ (k i : Nat), mutsG g n sl (k + 1) i = ((mutsG g n sl k i).1 ++ [(mutG g n sl (mutsG g n sl k i).2).1], (mutG g n sl (mutsG g n sl k i).2).2)
  | 0, i => rfl
  | k + 1, i => by
    rw [mutsG, mutsG_snoc g n sl k (mutG g n sl i).2]
    rfl
/-- the registers: r are there, position i -/
def RegInv (g : Nat → Int) (n : Int) (i0 : Nat) (r : List Int) (i : Nat) : Prop :=
  ∃ F, F + r.length = 4 ∧ 1 ≤ F ∧ regG g n 4 i0 0 = (r ++ (regG g n F i r.length).1, (regG g n F i r.length).2)
theorem RegInv.start (g : Nat → Int) (n : Int) (i0 : Nat) : RegInv g n i0 [] i0 := ⟨4, rfl, by decide, rfl⟩
theorem RegInv.len {g : Nat → Int} {n : Int} {i0 : Nat} {r : List Int} {i : Nat} (h : RegInv g n i0 r i) : r.length ≤ 3 := by obtain ⟨F, h1, h2, _⟩ := h; omega
theorem RegInv.step {g : Nat → Int} {n : Int} {i0 : Nat} {r : List Int} {i : Nat} (h : RegInv g n i0 r i) (hc : (r.length : Int) < 1 + g i % 3) : RegInv g n i0 (r ++ [g (i + 1) % (n + 1)]) (i + 1 + 1) := by
  obtain ⟨F, h1, h2, h3⟩ := h
  have h4 : g i % 3 < 3 := Int.emod_lt_of_pos _ (by decide)
  obtain ⟨f, rfl⟩ : ∃ f, F = f + 1 := ⟨F - 1, by omega⟩
  refine ⟨f, by rw [List.length_append]; simp; omega, by omega, ?_⟩
  rw [h3, regG, if_pos hc, List.length_append]
  simp
theorem RegInv.stop {g : Nat → Int} {n : Int} {i0 : Nat} {r : List Int} {i : Nat} (h : RegInv g n i0 r i) (hc : ¬ (r.length : Int) < 1 + g i % 3) : regG g n 4 i0 0 = (r, i + 1) := by
  obtain ⟨F, h1, h2, h3⟩ := h
  obtain ⟨f, rfl⟩ : ∃ f, F = f + 1 := ⟨F - 1, by omega⟩
  rw [h3, regG, if_neg hc]; simp
/-- the ops: acc are there, k to come -/
def OpInv (g : Nat → Int) (regs slots : Int) (K i0 : Nat) (acc : List Oq) (k i : Nat) : Prop := opsG g regs slots K i0 = (acc ++ (opsG g regs slots k i).1, (opsG g regs slots k i).2)
theorem OpInv.start (g : Nat → Int) (regs slots : Int) (K i0 : Nat) : OpInv g regs slots K i0 [] K i0 := rfl
theorem OpInv.step {g : Nat → Int} {regs slots : Int} {K i0 : Nat} {acc : List Oq} {k i : Nat} (h : OpInv g regs slots K i0 acc (k + 1) i) : OpInv g regs slots K i0 (acc ++ [(opG g regs slots i).1]) k (opG g regs slots i).2 := by
  unfold OpInv at h ⊢
  rw [h, opsG]; simp
theorem OpInv.stop {g : Nat → Int} {regs slots : Int} {K i0 : Nat} {acc : List Oq} {i : Nat} (h : OpInv g regs slots K i0 acc 0 i) : opsG g regs slots K i0 = (acc, i) := by
  unfold OpInv at h; rw [h]; simp [opsG]
theorem mutG_is {g : Nat → Int} {n sl : Int} {i j m : Nat} {r : List Int} {acc : List Oq} (h1 : regG g n 4 i 0 = (r, j)) (h2 : opsG g r.length sl (g j % 8).toNat (j + 1) = (acc, m)) : mutG g n sl i = ((r, acc), m) := by
  unfold mutG; rw [h1]; simp only; rw [h2]
/-- blocks above B are kept -/
structure KB (B : Nat) (w w' : World) : Prop where
  size : w.heap.size ≤ w'.heap.size
  block : ∀ k, B < k → k < w.heap.size → w'.heap[k]? = w.heap[k]?
section
variable {B M : Nat} {w w' w'' : World}
theorem KB.refl (B : Nat) (w : World) : KB B w w := ⟨Nat.le_refl _, fun _ _ _ => rfl⟩
theorem KB.trans (h : KB B w w') (k : KB B w' w'') : KB B w w'' := ⟨Nat.le_trans h.size k.size, fun i hB hi => (k.block i hB (Nat.lt_of_lt_of_le hi h.size)).trans (h.block i hB hi)⟩
theorem KB.call (h : KB B w w') (hg : w'.grownBy w'' (some M)) (hM : M < B) : KB B w w'' := h.trans ⟨hg.size, fun i hB hi => hg.block i hi (by intro e; injection e with e; omega)⟩
theorem KB.below (h : KB B w w') (hb : Below w'.heap.size w' w'') : KB B w w'' := h.trans ⟨hb.size, fun i _ hi => hb.block i hi⟩
theorem KB.set (h : KB B w w') (i : Nat) (u : Value) : KB B w (w'.setCell ⟨B, i, none⟩ u) := h.trans ⟨by rw [set_sizePl]; exact Nat.le_refl _, fun k hk _ => Below.heap_setCell w' ⟨B, i, none⟩ u k (by show k ≠ B; omega)⟩
theorem KB.app {row : Option Nat} (h : KB B w w') (hg : w'.grownBy w'' row) (hr : ∀ k, row = some k → w.heap.size ≤ k) : KB B w w'' :=
  ⟨Nat.le_trans h.size hg.size, fun i hB hi => (hg.block i (Nat.lt_of_lt_of_le hi h.size) (fun e => by have := hr i e.symm; omega)).trans (h.block i hB hi)⟩
theorem own_kb {base size n : Nat} {t : TypeId} {v : Value} {xs : List Value} (h : w.ownsRow base t size v n xs) (hk : KB B w w') (hb : B < base) : w'.ownsRow base t size v n xs := by
  refine ⟨h.1, ?_⟩
  rcases h.2 with h0 | ⟨g, cap, cur, hv, hg, hgg, hr⟩
  · exact .inl h0
  · exact .inr ⟨g, cap, cur, hv, hg, (hk.block g (by omega) (Array.getElem?_eq_some_iff.1 hgg).1).trans hgg, hr⟩
theorem rows_kb {base : Nat} {v : Value} {ls : Rws} (h : OwnR base w v ls) (hk : KB B w w') (hb : B < base) : OwnR base w' v ls := by
  obtain ⟨vs, h1, h2, h3⟩ := h
  exact ⟨vs, own_kb h1 hk hb, h2, fun i u l hu hl => own_kb (h3 i u l hu hl) hk hb⟩
/-- rows of ops, all in blocks from b on -/
def OwnO (b : Nat) (w : World) (v : Value) (ls : List (List Oq)) : Prop := ∃ vp, w.ownsRow b 100 1 v vp.length vp ∧ RowsO b w vp ls
theorem OwnO.nil_ (b : Nat) (w : World) : OwnO b w (.slice none 0 0) [] := ⟨[], World.ownsRow_nil _ _ _ _, rfl, by simp⟩
theorem ops_kb {base : Nat} {v : Value} {ls : List (List Oq)} (h : OwnO base w v ls) (hk : KB B w w') (hb : B < base) : OwnO base w' v ls := by
  obtain ⟨vs, h1, h2, h3⟩ := h
  exact ⟨vs, own_kb h1 hk hb, h2, fun i u l hu hl => own_kb (h3 i u l hu hl) hk hb⟩
/-- a row whose elements are of another type is kept by an append -/
theorem own_other {b1 b2 s1 s2 n1 n2 : Nat} {t1 t2 : TypeId} {v1 v2 : Value} {x1 x2 : List Value} (h1 : w.ownsRow b1 t1 s1 v1 n1 x1) (h2 : w.ownsRow b2 t2 s2 v2 n2 x2) (hne : t1 ≠ t2) (hg : w.grownBy w' v2.ownBlock) : w'.ownsRow b1 t1 s1 v1 n1 x1 := by
  refine h1.kept hg ?_
  rcases own_apart h1 h2 hne with e | e
  · exact .inr e
  · exact .inl e
theorem OwnO.other {b : Nat} {v v2 : Value} {ls : List (List Oq)} {b2 s2 n2 : Nat} {t2 : TypeId} {x2 : List Value} (h : OwnO b w v ls) (h2 : w.ownsRow b2 t2 s2 v2 n2 x2) (n1 : 100 ≠ t2) (n2 : 99 ≠ t2) (hg : w.grownBy w' v2.ownBlock) : OwnO b w' v ls := by
  obtain ⟨vp, h1, h3, h4⟩ := h
  exact ⟨vp, own_other h1 h2 n1 hg, h3, fun i u l hu hl => own_other (h4 i u l hu hl) h2 n2 hg⟩
theorem OwnR.other {b : Nat} {v v2 : Value} {ls : Rws} {b2 s2 n2 : Nat} {t2 : TypeId} {x2 : List Value} (h : OwnR b w v ls) (h2 : w.ownsRow b2 t2 s2 v2 n2 x2) (n1 : 47 ≠ t2) (n2 : 3 ≠ t2) (hg : w.grownBy w' v2.ownBlock) : OwnR b w' v ls := by
  obtain ⟨vp, h1, h3, h4⟩ := h
  exact ⟨vp, own_other h1 h2 n1 hg, h3, fun i u l hu hl => own_other (h4 i u l hu hl) h2 n2 hg⟩
theorem OwnO.snoc {b : Nat} {v v' u : Value} {vp : List Value} {ls : List (List Oq)} {l : List Oq} (hl : vp.length = ls.length) (htop : w.ownsRow b 100 1 v vp.length vp) (hrows : ∀ (i : Nat) (u : Value) (l : List Oq), vp[i]? = some u → ls[i]? = some l → w.ownsRow b 99 4 u l.length (l.flatMap oq))
    (hu : w.ownsRow b 99 4 u l.length (l.flatMap oq)) (ht : w'.ownsRow b 100 1 v' (vp.length + 1) (vp ++ [u])) (hg : w.grownBy w' v.ownBlock) : OwnO b w' v' (ls ++ [l]) := by
  refine ⟨vp ++ [u], by rw [List.length_append]; exact ht, by rw [List.length_append, List.length_append, hl]; rfl, fun i u' l' hu' hl' => ?_⟩
  by_cases hi : i < vp.length
  · rw [List.getElem?_append_left hi] at hu'
    rw [List.getElem?_append_left (by rw [← hl]; exact hi)] at hl'
    exact own_other (hrows i u' l' hu' hl') htop (by decide) hg
  · have hlt : i < (vp ++ [u]).length := (List.getElem?_eq_some_iff.1 hu').1
    rw [List.length_append] at hlt
    obtain rfl : i = vp.length := by simp at hlt; omega
    rw [List.getElem?_concat_length] at hu'
    rw [hl, List.getElem?_concat_length] at hl'
    cases hu'; cases hl'
    exact own_other hu htop (by decide) hg
theorem OwnO.set_below {b : Nat} {v : Value} {ls : List (List Oq)} (h : OwnO b w v ls) {a : Addr} (ha : a.block < b) (u : Value) : OwnO b (w.setCell a u) v ls := by
  obtain ⟨vp, h1, h3, h4⟩ := h
  exact ⟨vp, ownsRow_setCell_below h1 ha u, h3, fun i u' l hu hl => ownsRow_setCell_below (h4 i u' l hu hl) ha u⟩
theorem OwnO.below {b : Nat} {v : Value} {ls : List (List Oq)} (h : OwnO b w v ls) (hb : Below w.heap.size w w') : OwnO b w' v ls := by
  obtain ⟨vp, h1, h3, h4⟩ := h
  exact ⟨vp, own_below h1 hb, h3, fun i u' l hu hl => own_below (h4 i u' l hu hl) hb⟩
theorem OwnO.read {b : Nat} {v : Value} {ls : List (List Oq)} (h : OwnO b w v ls) : GridO w v ls := by
  obtain ⟨vp, p1, p2⟩ := h
  exact ⟨vp, Sl.of_own (enc := one) (size := 1) one_len (by rw [flat_one]; exact p1), p2.1, fun i u l hu hl => Sl.of_own oq_len (p2.2 i u l hu hl)⟩
end
/-- the plan that is being made: its box B, the answer's box R, the bytes' box M -/
structure Mst (w : World) (R M B : Nat) (v : Value) (l : List Int) (i : Nat) (W : World) (a b c d e f g h n : Int) (ob : Value) (s : Nat) (rg pg : Value) : Prop where
  bl : Below w.heap.size w W
  mk_ : Mk W M v l i
  bp : Bp 30 W B a b c d e f g h n ob s rg pg (.slice none 0 0)
  rs : Bp 30 W R 0 0 0 0 0 0 0 0 0 (.slice none 0 0) 0 (.slice none 0 0) (.slice none 0 0) (.slice none 0 0)
structure Mlt (w : World) (R M B : Nat) : Prop where
  hR : w.heap.size ≤ R
  hRM : R ≠ M
  hM : w.heap.size ≤ M
  hRB : R < B
  hMB : M < B
section
variable {w W W' : World} {R M B i j : Nat} {v : Value} {l : List Int} {a b c d e f g h n : Int} {ob : Value} {s : Nat} {rg pg : Value}
theorem Mst.call (k : Mst w R M B v l i W a b c d e f g h n ob s rg pg) (q : Mlt w R M B) (hm : Mk W' M v l j) (hg : W.grownBy W' (some M)) : Mst w R M B v l j W' a b c d e f g h n ob s rg pg :=
  ⟨k.bl.trans (grown_bel2 hg q.hM k.bl.size), hm, ⟨(hg.block B k.bp.lt (by intro e; injection e with e; have := q.hMB; omega)).trans k.bp.blk⟩, ⟨(hg.block R k.rs.lt (by intro e; injection e with e; exact q.hRM e)).trans k.rs.blk⟩⟩
theorem Mst.below (k : Mst w R M B v l i W a b c d e f g h n ob s rg pg) (hb : Below W.heap.size W W') : Mst w R M B v l i W' a b c d e f g h n ob s rg pg :=
  ⟨bcall k.bl hb, k.mk_.below hb, k.bp.below hb, k.rs.below hb⟩
theorem Mst.app {row : Option Nat} (k : Mst w R M B v l i W a b c d e f g h n ob s rg pg) (q : Mlt w R M B) (hg : W.grownBy W' row) (hr : ∀ x, row = some x → B < x) : Mst w R M B v l i W' a b c d e f g h n ob s rg pg := by
  have kp : ∀ x, x < W.heap.size → x ≤ B → W'.heap[x]? = W.heap[x]? := fun x hx hxB => hg.block x hx (fun e => by have := hr x e.symm; omega)
  have h1 := q.hR; have h2 := q.hRB; have h3 := q.hMB
  exact ⟨k.bl.grown hg k.bl.size (fun x hx => by have := hr x hx; omega), ⟨(kp M k.mk_.lt (by omega)).trans k.mk_.blk⟩, ⟨(kp B k.bp.lt (Nat.le_refl _)).trans k.bp.blk⟩, ⟨(kp R k.rs.lt (by omega)).trans k.rs.blk⟩⟩
theorem Mst.set {a' b' c' d' e' f' g' h' n' : Int} {ob' : Value} {s' : Nat} {rg' pg' : Value} (k : Mst w R M B v l i W a b c d e f g h n ob s rg pg) (q : Mlt w R M B) (x : Nat) (u : Value)
    (hb : (planC a b c d e f g h n ob s rg pg (.slice none 0 0)).setIfInBounds x u = planC a' b' c' d' e' f' g' h' n' ob' s' rg' pg' (.slice none 0 0)) : Mst w R M B v l i (W.setCell ⟨B, x, none⟩ u) a' b' c' d' e' f' g' h' n' ob' s' rg' pg' := by
  have h1 := q.hR; have h2 := q.hRB; have h3 := q.hMB
  refine ⟨k.bl.setCell (p := ⟨B, x, none⟩) (by show w.heap.size ≤ B; omega) u, ⟨(Below.heap_setCell W ⟨B, x, none⟩ u M (by show M ≠ B; omega)).trans k.mk_.blk⟩, ⟨?_⟩, ⟨(Below.heap_setCell W ⟨B, x, none⟩ u R (by show R ≠ B; omega)).trans k.rs.blk⟩⟩
  rw [block_setCell k.bp.blk (i := x) u, ← hb]
theorem Bp.cellsF {t : TypeId} {pk : Value} (k : Bp t W B a b c d e f g h n ob s rg pg pk) (x : Nat) : W.frozen? ⟨B, x, none⟩ = false := unfrozen_of_block k.blk x
end
theorem Mst.at_ {w W : World} {R M B i j : Nat} {v : Value} {l : List Int} {a b c d e f g h n : Int} {ob : Value} {s : Nat} {rg pg : Value} (k : Mst w R M B v l i W a b c d e f g h n ob s rg pg) (hij : i = j) : Mst w R M B v l j W a b c d e f g h n ob s rg pg := hij ▸ k
theorem bp_new0 (w : World) (a b c d e f g h n : Int) (ob rg pg pk : Value) (t : TypeId) : ∃ w1, w.alloc (.cells #[.int .i64 a, .int .i64 b, .int .i64 c, .int .i64 d, .int .i64 e, .int .i64 f, .int .i64 g, .int .i64 h, .int .i64 n, ob, .int .u64 0, rg, pg, pk] t) = w1 ∧
    Below w.heap.size w w1 ∧ w1.heap.size = w.heap.size + 1 ∧ Bp t w1 w.heap.size a b c d e f g h n ob 0 rg pg pk := bp_new w a b c d e f g h n ob 0 rg pg pk t
theorem op_c (M : Nat) (v : Value) (l : List Int) (i : Nat) (regs slots : Int) (w : World) (hM : Mk w M v l i) (hl : Bytes w v l) (hr : ∀ b ∈ l, 0 ≤ b ∧ b ≤ 255) (hne : 0 < l.length → ∀ x, v.ownBlock = some x → x ≠ M) (hg : 1 ≤ regs ∧ regs ≤ 4) (hs : 1 ≤ slots ∧ slots ≤ 4) (o : Oq) (j : Nat) (ho : opG (byteG l) regs slots i = (o, j)) :
    Calls Tryz.prog 37 #[.pointer (some ⟨M, 0, none⟩), .int .i64 regs, .int .i64 slots] w fun e w' => e = .returned (.agg #[.int .i64 o.kind, .int .i64 o.r, .int .i64 o.a, .int .i64 o.s]) ∧ Mk w' M v l j ∧ w.grownBy w' (some M) := by
  have h := op_any M v l i regs slots w hM hl hr hne hg hs
  rw [ho] at h
  exact h
/-- block R is being written -/
structure PRt_ (t : TypeId) (R : Nat) (W Z : World) (cs : Array Value) : Prop where
  blk : Z.heap[R]? = some (.cells cs t)
  oth : ∀ x, x ≠ R → Z.heap[x]? = W.heap[x]?
  size : Z.heap.size = W.heap.size
  bel : Below R W Z
theorem PRt_.start {t : TypeId} {W : World} {R : Nat} {a b c d e f g h n : Int} {ob : Value} {s : Nat} {rg pg pk : Value} (k : Bp t W R a b c d e f g h n ob s rg pg pk) : PRt_ t R W W (planC a b c d e f g h n ob s rg pg pk) := ⟨k.blk, fun _ _ => rfl, rfl, Below.refl _ _⟩
theorem PRt_.step {t : TypeId} {W Z : World} {R : Nat} {cs : Array Value} (k : PRt_ t R W Z cs) (i : Nat) (v : Value) : PRt_ t R W (Z.setCell ⟨R, i, none⟩ v) (cs.setIfInBounds i v) :=
  ⟨by rw [block_setCell k.blk], fun x hx => (set_others Z R i v x hx).trans (k.oth x hx), by rw [set_sizePl]; exact k.size, k.bel.trans (set_below Z R i v)⟩
theorem plan_ret {t : TypeId} {W : World} {R : Nat} {a b c d e f g h n : Int} {ob : Value} {s : Nat} {rg pg pk : Value} (k : Bp t W R a b c d e f g h n ob s rg pg pk) (v0 v1 v2 v3 v4 v5 v6 v7 v8 v9 va vb vc vd : Value) : ∃ Z, ((((((((((((((W.setCell ⟨R, 0, none⟩ v0).setCell ⟨R, 1, none⟩ v1).setCell ⟨R, 2, none⟩ v2).setCell ⟨R, 3, none⟩ v3).setCell ⟨R, 4, none⟩ v4).setCell ⟨R, 5, none⟩ v5).setCell ⟨R, 6, none⟩ v6).setCell ⟨R, 7, none⟩ v7).setCell ⟨R, 8, none⟩ v8).setCell ⟨R, 9, none⟩ v9).setCell ⟨R, 10, none⟩ va).setCell ⟨R, 11, none⟩ vb).setCell ⟨R, 12, none⟩ vc).setCell ⟨R, 13, none⟩ vd) = Z ∧
    Z.heap[R]? = some (.cells #[v0, v1, v2, v3, v4, v5, v6, v7, v8, v9, va, vb, vc, vd] t) ∧ (∀ x, x ≠ R → Z.heap[x]? = W.heap[x]?) ∧ Z.heap.size = W.heap.size ∧ Below R W Z := by
  obtain ⟨Z0, e0, s0⟩ : ∃ Z, W.setCell ⟨R, 0, none⟩ v0 = Z ∧ PRt_ t R W Z #[v0, .int .i64 b, .int .i64 c, .int .i64 d, .int .i64 e, .int .i64 f, .int .i64 g, .int .i64 h, .int .i64 n, ob, .int .u64 (s : Int), rg, pg, pk] := ⟨_, rfl, (PRt_.start k).step 0 v0⟩
  obtain ⟨Z1, e1, s1⟩ : ∃ Z, Z0.setCell ⟨R, 1, none⟩ v1 = Z ∧ PRt_ t R W Z #[v0, v1, .int .i64 c, .int .i64 d, .int .i64 e, .int .i64 f, .int .i64 g, .int .i64 h, .int .i64 n, ob, .int .u64 (s : Int), rg, pg, pk] := ⟨_, rfl, s0.step 1 v1⟩
  obtain ⟨Z2, e2, s2⟩ : ∃ Z, Z1.setCell ⟨R, 2, none⟩ v2 = Z ∧ PRt_ t R W Z #[v0, v1, v2, .int .i64 d, .int .i64 e, .int .i64 f, .int .i64 g, .int .i64 h, .int .i64 n, ob, .int .u64 (s : Int), rg, pg, pk] := ⟨_, rfl, s1.step 2 v2⟩
  obtain ⟨Z3, e3, s3⟩ : ∃ Z, Z2.setCell ⟨R, 3, none⟩ v3 = Z ∧ PRt_ t R W Z #[v0, v1, v2, v3, .int .i64 e, .int .i64 f, .int .i64 g, .int .i64 h, .int .i64 n, ob, .int .u64 (s : Int), rg, pg, pk] := ⟨_, rfl, s2.step 3 v3⟩
  obtain ⟨Z4, e4, s4⟩ : ∃ Z, Z3.setCell ⟨R, 4, none⟩ v4 = Z ∧ PRt_ t R W Z #[v0, v1, v2, v3, v4, .int .i64 f, .int .i64 g, .int .i64 h, .int .i64 n, ob, .int .u64 (s : Int), rg, pg, pk] := ⟨_, rfl, s3.step 4 v4⟩
  obtain ⟨Z5, e5, s5⟩ : ∃ Z, Z4.setCell ⟨R, 5, none⟩ v5 = Z ∧ PRt_ t R W Z #[v0, v1, v2, v3, v4, v5, .int .i64 g, .int .i64 h, .int .i64 n, ob, .int .u64 (s : Int), rg, pg, pk] := ⟨_, rfl, s4.step 5 v5⟩
  obtain ⟨Z6, e6, s6⟩ : ∃ Z, Z5.setCell ⟨R, 6, none⟩ v6 = Z ∧ PRt_ t R W Z #[v0, v1, v2, v3, v4, v5, v6, .int .i64 h, .int .i64 n, ob, .int .u64 (s : Int), rg, pg, pk] := ⟨_, rfl, s5.step 6 v6⟩
  obtain ⟨Z7, e7, s7⟩ : ∃ Z, Z6.setCell ⟨R, 7, none⟩ v7 = Z ∧ PRt_ t R W Z #[v0, v1, v2, v3, v4, v5, v6, v7, .int .i64 n, ob, .int .u64 (s : Int), rg, pg, pk] := ⟨_, rfl, s6.step 7 v7⟩
  obtain ⟨Z8, e8, s8⟩ : ∃ Z, Z7.setCell ⟨R, 8, none⟩ v8 = Z ∧ PRt_ t R W Z #[v0, v1, v2, v3, v4, v5, v6, v7, v8, ob, .int .u64 (s : Int), rg, pg, pk] := ⟨_, rfl, s7.step 8 v8⟩
  obtain ⟨Z9, e9, s9⟩ : ∃ Z, Z8.setCell ⟨R, 9, none⟩ v9 = Z ∧ PRt_ t R W Z #[v0, v1, v2, v3, v4, v5, v6, v7, v8, v9, .int .u64 (s : Int), rg, pg, pk] := ⟨_, rfl, s8.step 9 v9⟩
  obtain ⟨Z10, e10, s10⟩ : ∃ Z, Z9.setCell ⟨R, 10, none⟩ va = Z ∧ PRt_ t R W Z #[v0, v1, v2, v3, v4, v5, v6, v7, v8, v9, va, rg, pg, pk] := ⟨_, rfl, s9.step 10 va⟩
  obtain ⟨Z11, e11, s11⟩ : ∃ Z, Z10.setCell ⟨R, 11, none⟩ vb = Z ∧ PRt_ t R W Z #[v0, v1, v2, v3, v4, v5, v6, v7, v8, v9, va, vb, pg, pk] := ⟨_, rfl, s10.step 11 vb⟩
  obtain ⟨Z12, e12, s12⟩ : ∃ Z, Z11.setCell ⟨R, 12, none⟩ vc = Z ∧ PRt_ t R W Z #[v0, v1, v2, v3, v4, v5, v6, v7, v8, v9, va, vb, vc, pk] := ⟨_, rfl, s11.step 12 vc⟩
  obtain ⟨Z13, e13, s13⟩ : ∃ Z, Z12.setCell ⟨R, 13, none⟩ vd = Z ∧ PRt_ t R W Z #[v0, v1, v2, v3, v4, v5, v6, v7, v8, v9, va, vb, vc, vd] := ⟨_, rfl, s12.step 13 vd⟩
  exact ⟨Z13, by rw [e0, e1, e2, e3, e4, e5, e6, e7, e8, e9, e10, e11, e12, e13], s13.blk, s13.oth, s13.size, s13.bel⟩
theorem objG_len (g : Nat → Int) (n : Int) (k i : Nat) : (objG g n k i).length = k := by simp [objG]
theorem Add_zero (o : Int) (w : World) (h0 : -9223372036854775808 ≤ o) (h1 : o ≤ 9223372036854775807) (s : Nat) (hs : addF 0 o = s) :
    Calls Tryz.prog 36 #[.int .u64 0, .int .i64 o] w fun e w' => e = .returned (.int .u64 (s : Nat)) ∧ w' = w := by
  subst hs; exact Add_any 0 o w (by decide) h0 h1
theorem bp_zero (w : World) (t : TypeId) : ∃ w1, w.alloc (.cells #[.int .i64 0, .int .i64 0, .int .i64 0, .int .i64 0, .int .i64 0, .int .i64 0, .int .i64 0, .int .i64 0, .int .i64 0, .slice none 0 0, .int .u64 0, .slice none 0 0, .slice none 0 0, .slice none 0 0] t) = w1 ∧
    Below w.heap.size w w1 ∧ w1.heap.size = w.heap.size + 1 ∧ Bp t w1 w.heap.size 0 0 0 0 0 0 0 0 0 (.slice none 0 0) 0 (.slice none 0 0) (.slice none 0 0) (.slice none 0 0) := bp_new w 0 0 0 0 0 0 0 0 0 (.slice none 0 0) 0 (.slice none 0 0) (.slice none 0 0) (.slice none 0 0) t
end Go.Proofs.YtdmbcjckgfjcaaaGreatDoor
