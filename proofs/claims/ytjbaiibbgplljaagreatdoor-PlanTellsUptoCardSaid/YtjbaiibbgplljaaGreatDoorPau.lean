import Derived.Deep.RegionHeldLaw
import Derived.Test.YtjbaiibbgplljaaGreatDoorPas
import Derived.Test.YtjbaiibbgplljaaGreatDoorPat
import Derived.Test.YtjbaiibbgplljaaGreatDoorPag
set_option maxRecDepth 100000
set_option maxHeartbeats 40000000
namespace Go.Proofs.YtjbaiibbgplljaaGreatDoor
open Go.RowKit Go.Joins
theorem Bp.cells {t : TypeId} {w : World} {B : Nat} {a b c d e f g h n : Int} {ob : Value} {s : Nat} {rg pg pk : Value} (k : Bp t w B a b c d e f g h n ob s rg pg pk) :
 PC w B (.int .i64 a) (.int .i64 b) (.int .i64 c) (.int .i64 d) (.int .i64 e) (.int .i64 f) (.int .i64 g) (.int .i64 h) (.int .i64 n) ob (.int .u64 (s : Int)) rg pg pk := by
 obtain ⟨x0, x1, x2, x3, x4, x5, x6, x7⟩ := k.all; obtain ⟨y0, y1, y2, y3, y4, y5⟩ := k.all2; exact ⟨x0, x1, x2, x3, x4, x5, x6, x7, y0, y1, y2, y3, y4, y5⟩
theorem belowD {n : Nat} {a b : World} (h : Below n a b) : Below n a b.drew := ⟨h.os, h.tape, h.output, h.size, h.block⟩
theorem pWithin_int (n a b : Int) (w : World) : Calls Tryz.prog 80 #[.int .i64 n, .int .i64 a, .int .i64 b] w fun e w' => e = .returned (.bool (inP n a b)) ∧ w' = w := by
 by_cases h : a ≤ n <;> by_cases k : n ≤ b
 all_goals
  have HF := hide (show inP n a b = _ by simp only [inP, h, k, and_self, and_true, and_false, decide_true, decide_false]; rfl); go_enter Tryz.func80, Tryz.ntmps80
  go_wp2; go_ret
  exact ⟨ret_bool HF.out.symm, rfl⟩
theorem pWithin_int64 (n a b : Int) (w : World) : Calls Tryz.prog 81 #[.int .i64 n, .int .i64 a, .int .i64 b] w fun e w' => e = .returned (.bool (inP n a b)) ∧ w' = w := by
 by_cases h : a ≤ n <;> by_cases k : n ≤ b
 all_goals
  have HF := hide (show inP n a b = _ by simp only [inP, h, k, and_self, and_true, and_false, decide_true, decide_false]; rfl); go_enter Tryz.func81, Tryz.ntmps81
  go_wp2; go_ret
  exact ⟨ret_bool HF.out.symm, rfl⟩
theorem pNums_any (a b c d e f g h n : Int) (ob : Value) (s : Nat) (rg pg pk : Value) (w : World) (B : Bool) (hB : (inP a 1 16 && (inP b 0 16 && (inP c 1 16 && (inP d 1 8 && (inP e 1 8 && (inP g 0 1000000 && inP h 0 1000000)))))) = B) :
 Calls Tryz.prog 47 #[planV a b c d e f g h n ob s rg pg pk] w fun x w' => x = .returned (.bool B) ∧ Below w.heap.size w w' := by
 obtain ⟨w1, e1, hb1, hs1, X⟩ := bp_new w a b c d e f g h n ob s rg pg pk 30; have HX := hide X; have HE := hide e1; have HB1 := hide hb1; obtain ⟨x0, x1, x2, x3, x4, x5, x6, x7⟩ := X.all; obtain ⟨x8, x9, xa, xb, xc, xd⟩ := X.all2; clear e1 X hb1 hs1; cases k0 : inP a 1 16
 · have K0 := hide k0
   clear k0; have HF := hide (show B = false by rw [← hB, K0.out]; rfl); clear hB; unfold planV; go_enter Tryz.func47, Tryz.ntmps47
   go_wp2_with fail
   rw [HE.out]; (with_reducible refine (pWithin_int a 1 16 _).mono ?_); rintro x w2 ⟨rfl, hw2⟩; obtain rfl := hw2.symm; rw [K0.out]; go_wp2; go_ret
   exact ⟨ret_bool HF.out.symm, HB1.out⟩
 have K0 := hide k0; clear k0; cases k1 : inP b 0 16
 · have K1 := hide k1
   clear k1; have HF := hide (show B = false by rw [← hB, K0.out, K1.out]; rfl); clear hB; unfold planV; go_enter Tryz.func47, Tryz.ntmps47
   go_wp2_with fail
   rw [HE.out]; (with_reducible refine (pWithin_int a 1 16 _).mono ?_); rintro x w2 ⟨rfl, hw2⟩; obtain rfl := hw2.symm; rw [K0.out]; go_wp2_with fail
   (with_reducible refine (pWithin_int b 0 16 _).mono ?_); rintro x w2 ⟨rfl, hw2⟩; obtain rfl := hw2.symm; rw [K1.out]; go_wp2; go_ret
   exact ⟨ret_bool HF.out.symm, HB1.out⟩
 have K1 := hide k1; clear k1; cases k2 : inP c 1 16
 · have K2 := hide k2
   clear k2; have HF := hide (show B = false by rw [← hB, K0.out, K1.out, K2.out]; rfl); clear hB; unfold planV; go_enter Tryz.func47, Tryz.ntmps47
   go_wp2_with fail
   rw [HE.out]; (with_reducible refine (pWithin_int a 1 16 _).mono ?_); rintro x w2 ⟨rfl, hw2⟩; obtain rfl := hw2.symm; rw [K0.out]; go_wp2_with fail
   (with_reducible refine (pWithin_int b 0 16 _).mono ?_); rintro x w2 ⟨rfl, hw2⟩; obtain rfl := hw2.symm; rw [K1.out]; go_wp2_with fail
   (with_reducible refine (pWithin_int c 1 16 _).mono ?_); rintro x w2 ⟨rfl, hw2⟩; obtain rfl := hw2.symm; rw [K2.out]; go_wp2; go_ret
   exact ⟨ret_bool HF.out.symm, HB1.out⟩
 have K2 := hide k2; clear k2; cases k3 : inP d 1 8
 · have K3 := hide k3
   clear k3; have HF := hide (show B = false by rw [← hB, K0.out, K1.out, K2.out, K3.out]; rfl); clear hB; unfold planV; go_enter Tryz.func47, Tryz.ntmps47
   go_wp2_with fail
   rw [HE.out]; (with_reducible refine (pWithin_int a 1 16 _).mono ?_); rintro x w2 ⟨rfl, hw2⟩; obtain rfl := hw2.symm; rw [K0.out]; go_wp2_with fail
   (with_reducible refine (pWithin_int b 0 16 _).mono ?_); rintro x w2 ⟨rfl, hw2⟩; obtain rfl := hw2.symm; rw [K1.out]; go_wp2_with fail
   (with_reducible refine (pWithin_int c 1 16 _).mono ?_); rintro x w2 ⟨rfl, hw2⟩; obtain rfl := hw2.symm; rw [K2.out]; go_wp2_with fail
   (with_reducible refine (pWithin_int d 1 8 _).mono ?_); rintro x w2 ⟨rfl, hw2⟩; obtain rfl := hw2.symm; rw [K3.out]; go_wp2; go_ret
   exact ⟨ret_bool HF.out.symm, HB1.out⟩
 have K3 := hide k3; clear k3; cases k4 : inP e 1 8
 · have K4 := hide k4
   clear k4; have HF := hide (show B = false by rw [← hB, K0.out, K1.out, K2.out, K3.out, K4.out]; rfl); clear hB; unfold planV; go_enter Tryz.func47, Tryz.ntmps47
   go_wp2_with fail
   rw [HE.out]; (with_reducible refine (pWithin_int a 1 16 _).mono ?_); rintro x w2 ⟨rfl, hw2⟩; obtain rfl := hw2.symm; rw [K0.out]; go_wp2_with fail
   (with_reducible refine (pWithin_int b 0 16 _).mono ?_); rintro x w2 ⟨rfl, hw2⟩; obtain rfl := hw2.symm; rw [K1.out]; go_wp2_with fail
   (with_reducible refine (pWithin_int c 1 16 _).mono ?_); rintro x w2 ⟨rfl, hw2⟩; obtain rfl := hw2.symm; rw [K2.out]; go_wp2_with fail
   (with_reducible refine (pWithin_int d 1 8 _).mono ?_); rintro x w2 ⟨rfl, hw2⟩; obtain rfl := hw2.symm; rw [K3.out]; go_wp2_with fail
   (with_reducible refine (pWithin_int e 1 8 _).mono ?_); rintro x w2 ⟨rfl, hw2⟩; obtain rfl := hw2.symm; rw [K4.out]; go_wp2; go_ret
   exact ⟨ret_bool HF.out.symm, HB1.out⟩
 have K4 := hide k4; clear k4; cases k5 : inP g 0 1000000
 · have K5 := hide k5
   clear k5; have HF := hide (show B = false by rw [← hB, K0.out, K1.out, K2.out, K3.out, K4.out, K5.out]; rfl); clear hB; unfold planV; go_enter Tryz.func47, Tryz.ntmps47
   go_wp2_with fail
   rw [HE.out]; (with_reducible refine (pWithin_int a 1 16 _).mono ?_); rintro x w2 ⟨rfl, hw2⟩; obtain rfl := hw2.symm; rw [K0.out]; go_wp2_with fail
   (with_reducible refine (pWithin_int b 0 16 _).mono ?_); rintro x w2 ⟨rfl, hw2⟩; obtain rfl := hw2.symm; rw [K1.out]; go_wp2_with fail
   (with_reducible refine (pWithin_int c 1 16 _).mono ?_); rintro x w2 ⟨rfl, hw2⟩; obtain rfl := hw2.symm; rw [K2.out]; go_wp2_with fail
   (with_reducible refine (pWithin_int d 1 8 _).mono ?_); rintro x w2 ⟨rfl, hw2⟩; obtain rfl := hw2.symm; rw [K3.out]; go_wp2_with fail
   (with_reducible refine (pWithin_int e 1 8 _).mono ?_); rintro x w2 ⟨rfl, hw2⟩; obtain rfl := hw2.symm; rw [K4.out]; go_wp2_with fail
   (with_reducible refine (pWithin_int64 g 0 1000000 _).mono ?_); rintro x w2 ⟨rfl, hw2⟩; obtain rfl := hw2.symm; rw [K5.out]; go_wp2; go_ret
   exact ⟨ret_bool HF.out.symm, HB1.out⟩
 have K5 := hide k5; clear k5; cases k6 : inP h 0 1000000
 · have K6 := hide k6
   clear k6; have HF := hide (show B = false by rw [← hB, K0.out, K1.out, K2.out, K3.out, K4.out, K5.out, K6.out]; rfl); clear hB; unfold planV; go_enter Tryz.func47, Tryz.ntmps47
   go_wp2_with fail
   rw [HE.out]; (with_reducible refine (pWithin_int a 1 16 _).mono ?_); rintro x w2 ⟨rfl, hw2⟩; obtain rfl := hw2.symm; rw [K0.out]; go_wp2_with fail
   (with_reducible refine (pWithin_int b 0 16 _).mono ?_); rintro x w2 ⟨rfl, hw2⟩; obtain rfl := hw2.symm; rw [K1.out]; go_wp2_with fail
   (with_reducible refine (pWithin_int c 1 16 _).mono ?_); rintro x w2 ⟨rfl, hw2⟩; obtain rfl := hw2.symm; rw [K2.out]; go_wp2_with fail
   (with_reducible refine (pWithin_int d 1 8 _).mono ?_); rintro x w2 ⟨rfl, hw2⟩; obtain rfl := hw2.symm; rw [K3.out]; go_wp2_with fail
   (with_reducible refine (pWithin_int e 1 8 _).mono ?_); rintro x w2 ⟨rfl, hw2⟩; obtain rfl := hw2.symm; rw [K4.out]; go_wp2_with fail
   (with_reducible refine (pWithin_int64 g 0 1000000 _).mono ?_); rintro x w2 ⟨rfl, hw2⟩; obtain rfl := hw2.symm; rw [K5.out]; go_wp2_with fail
   (with_reducible refine (pWithin_int64 h 0 1000000 _).mono ?_); rintro x w2 ⟨rfl, hw2⟩; obtain rfl := hw2.symm; rw [K6.out]; go_wp2; go_ret
   exact ⟨ret_bool HF.out.symm, HB1.out⟩
 have K6 := hide k6; clear k6; have HF := hide (show B = true by rw [← hB, K0.out, K1.out, K2.out, K3.out, K4.out, K5.out, K6.out]; rfl); clear hB; unfold planV; go_enter Tryz.func47, Tryz.ntmps47
 go_wp2_with fail
 rw [HE.out]; (with_reducible refine (pWithin_int a 1 16 _).mono ?_); rintro x w2 ⟨rfl, hw2⟩; obtain rfl := hw2.symm; rw [K0.out]; go_wp2_with fail
 (with_reducible refine (pWithin_int b 0 16 _).mono ?_); rintro x w2 ⟨rfl, hw2⟩; obtain rfl := hw2.symm; rw [K1.out]; go_wp2_with fail
 (with_reducible refine (pWithin_int c 1 16 _).mono ?_); rintro x w2 ⟨rfl, hw2⟩; obtain rfl := hw2.symm; rw [K2.out]; go_wp2_with fail
 (with_reducible refine (pWithin_int d 1 8 _).mono ?_); rintro x w2 ⟨rfl, hw2⟩; obtain rfl := hw2.symm; rw [K3.out]; go_wp2_with fail
 (with_reducible refine (pWithin_int e 1 8 _).mono ?_); rintro x w2 ⟨rfl, hw2⟩; obtain rfl := hw2.symm; rw [K4.out]; go_wp2_with fail
 (with_reducible refine (pWithin_int64 g 0 1000000 _).mono ?_); rintro x w2 ⟨rfl, hw2⟩; obtain rfl := hw2.symm; rw [K5.out]; go_wp2_with fail
 (with_reducible refine (pWithin_int64 h 0 1000000 _).mono ?_); rintro x w2 ⟨rfl, hw2⟩; obtain rfl := hw2.symm; rw [K6.out]; go_wp2; go_ret
 exact ⟨ret_bool HF.out.symm, HB1.out⟩
theorem pPicks_any (a b c d e f g h n : Int) (ob : Value) (s : Nat) (rg pg pk : Value) (lk : List PP) (w : World) (hk : Picks w pk lk) (B : Bool) (hB : (decide (lk.length ≤ 100000) && lk.all fun x => there x a b) = B) :
 Calls Tryz.prog 50 #[planV a b c d e f g h n ob s rg pg pk] w fun x w' => x = .returned (.bool B) ∧ Below w.heap.size w w' := by
 have HK := hide hk; obtain ⟨Ak, mk, rfl, hk1, hk2, -⟩ := id hk; unfold maxLen at hk2; clear hk; obtain ⟨w1, e1, hb1, hs1, X⟩ := bp_new w a b c d e f g h n ob s rg pg (.slice Ak lk.length mk) 30; have HX := hide X; have HE := hide e1; have HB1 := hide hb1; obtain ⟨x0, x1, x2, x3, x4, x5, x6, x7⟩ := X.all; obtain ⟨x8, x9, xa, xb, xc, xd⟩ := X.all2; clear e1 X hb1 hs1; by_cases hl : lk.length ≤ 100000
 · have hd : decide ((lk.length : Int) ≤ 100000) = true := decide_eq_true (by omega)
   have HF := hide (show (lk.all fun x => there x a b) = B by rw [← hB, decide_eq_true hl]; rfl); clear hB hl; unfold planV; go_enter Tryz.func50, Tryz.ntmps50
   go_wp2_with fail
   rw [HE.out]; (with_reducible refine (Known_any _ lk a b _ (HK.out.below HB1.out)).mono ?_); rintro x w3 ⟨rfl, hb3⟩; rw [HF.out]; go_wp2; go_ret
   exact ⟨rfl, bcall HB1.out hb3⟩
 · have hd : decide ((lk.length : Int) ≤ 100000) = false := decide_eq_false (by omega)
   have HF := hide (show B = false by rw [← hB, decide_eq_false hl]; rfl); clear hB hl; unfold planV; go_enter Tryz.func50, Tryz.ntmps50
   go_wp2_with fail
   go_ret
   exact ⟨ret_bool HF.out.symm, by first | exact HB1.out | (rw [HE.out]; exact HB1.out)⟩
theorem pRegs_any (v : Value) (l : List Int) (m : Int) (ob : Value) (lo : Rws) (w : World) (h : Ints w v l) (ho : Grid w ob lo) (B : Bool) (hB : regsF lo.length l = B) :
 Calls Tryz.prog 85 #[v, hv m ob] w fun x w' => x = .returned (.bool B) ∧ Below w.heap.size w w' := by
 have HI := hide h; obtain ⟨A, k, rfl, hm1, hm2, -⟩ := id h; obtain ⟨Ao, ko, rfl, ho1, ho2⟩ := ho.form; unfold maxLen at hm2 ho2; clear h ho; obtain ⟨w1, e1, hb1, hs1, X⟩ := b2_new w (.int .i64 m) (.slice Ao lo.length ko) 24; have HE := hide e1; have HB1 := hide hb1; have HI1 := hide (HI.out.below hb1); obtain ⟨x0, x1⟩ := X.all; clear e1 X hb1 hs1; have HB := hide hB; clear hB; cases k0 : inP l.length 1 4
 · have K0 := hide k0
   have HF := hide (show B = false by rw [← HB.out]; unfold regsF; unfold inP at k0; rw [Bool.and_eq_false_iff]; right; rw [decide_eq_false_iff_not] at k0 ⊢; omega); clear k0; go_enter Tryz.func85, Tryz.ntmps85
   go_wp2_with fail
   rw [HE.out]; (with_reducible refine (pWithin_int _ 1 4 _).mono ?_); rintro x w2 ⟨rfl, hw2⟩; obtain rfl := hw2.symm; rw [K0.out]; go_wp2; go_ret
   exact ⟨ret_bool HF.out.symm, HB1.out⟩
 have K0 := hide k0; clear k0; go_enter Tryz.func85, Tryz.ntmps85
 go_wp2_with fail
 rw [HE.out]; (with_reducible refine (pWithin_int _ 1 4 _).mono ?_); rintro x w2 ⟨rfl, hw2⟩; obtain rfl := hw2.symm; rw [K0.out]; go_wp2_with fail
 go_loopw [13] (fun iv wr => ∃ i : Nat, i ≤ l.length ∧ iv = .int .i64 i ∧ wr = w1 ∧ Hid ((l.take i).all (fun x => decide (0 ≤ x ∧ x ≤ (lo.length : Int))) = true)) (fun iv _ => l.length - (intOf iv).toNat)
 case atStart => exact ⟨0, Nat.zero_le _, rfl, rfl, hide rfl⟩
 case round =>
  obtain ⟨i, hi, rfl, hwr, HK⟩ := hrel; obtain rfl := hwr; by_cases hlt : i < l.length
  · obtain ⟨b, off, rfl, -, hc⟩ := ints_at HI1.out hlt
    have hn := regs_take hlt HK.out; have hs := regs_stop (n := lo.length) hlt; generalize l[i] = x at *; cases hin : inP x 0 lo.length
    · have HS := hide (show B = false by rw [← HB.out]; exact hs hin)
      have H1 := hide hin; clear hn hs hin; go_wp2_with fail
      (with_reducible refine (pWithin_int x 0 lo.length _).mono ?_); rintro e w2 ⟨rfl, hw2⟩; obtain rfl := hw2.symm; rw [H1.out]; go_wp2; go_ret
      exact ⟨ret_bool HS.out.symm, HB1.out⟩
    · have HN := hide (hn.trans hin)
      have H1 := hide hin; clear hn hs hin; go_wp2_with fail
      (with_reducible refine (pWithin_int x 0 lo.length _).mono ?_); rintro e w2 ⟨rfl, hw2⟩; obtain rfl := hw2.symm; rw [H1.out]; go_wp2; go_roundw
      case rel => exact ⟨i + 1, by omega, by go_num, trivial, HN⟩
      case measure => simp [intOf]; omega
  · have HF := hide (show B = true by rw [← HB.out, regs_end (n := lo.length) (l := l) (by have := HK.out; rwa [List.take_of_length_le (by omega)] at this)]; exact K0.out)
    go_wp2; go_ret
    exact ⟨ret_bool HF.out.symm, HB1.out⟩
theorem pHeap_any (a b c d e f g h n : Int) (ob : Value) (s : Nat) (rg pg pk : Value) (lo : Rws) (w : World) (hs : s < 18446744073709551616) (ho : Grid w ob lo) (B : Bool) (hB : (rightF n lo && (inP f lo.length 64 && underF s (firstF lo.length))) = B) :
 Calls Tryz.prog 48 #[planV a b c d e f g h n ob s rg pg pk] w fun x w' => x = .returned (.bool B) ∧ Below w.heap.size w w' := by
 have HO := hide ho; have HS := hide hs; obtain ⟨A, m, rfl, hm1, hm2⟩ := ho.form; unfold maxLen at hm2; clear ho hs; obtain ⟨w1, e1, hb1, hs1, X⟩ := bp_new w a b c d e f g h n (.slice A lo.length m) s rg pg pk 30; have HX := hide X; have HE := hide e1; have HB1 := hide hb1; obtain ⟨x0, x1, x2, x3, x4, x5, x6, x7⟩ := X.all; obtain ⟨x8, x9, xa, xb, xc, xd⟩ := X.all2; clear e1 X hb1 hs1; have HO1 := hide (HO.out.below HB1.out); cases q0 : rightF n lo
 · have Q0 := hide q0
   clear q0; have HF := hide (show B = false by rw [← hB, Q0.out]; rfl); clear hB; unfold planV; go_enter Tryz.func48, Tryz.ntmps48
   go_wp2; rw [HE.out]; go_wp2; refine wp_region_held_drew (S := fun w' => PC w' (w.heap.size) (.int .i64 a) (.int .i64 b) (.int .i64 c) (.int .i64 d) (.int .i64 e) (.int .i64 f) (.int .i64 g) (.int .i64 h) (.int .i64 n) (.slice A lo.length m) (.int .u64 (s : Int)) rg pg pk) (by kernel_rfl) ?_ (fun hHeld => ?_)
   · exact (by first | (with_reducible exact HX.out.drew.cells) | (with_reducible exact (HX.out.drew.below hb3).cells))
   refine tk 0 ?_; refine tk 1 ?_; refine r1 2 (fun K hK => ?_); go_simp; go_at_call 82; (with_reducible refine (Right_cHp n _ lo _ (HO1.out.below (belowD (Below.refl _ _))) false Q0.out).mono ?_); rintro x w3 ⟨rfl, hb3⟩; (try go_simp); refine go_ hK (by first | (with_reducible exact HX.out.drew.cells) | (with_reducible exact (HX.out.drew.below hb3).cells)) (fun hHeld => ?_); refine tk 3 ?_; refine tu 4 ?_; refine tu 5 ?_; refine tu 6 ?_; refine tu 7 ?_; refine tk 8 ?_; refine tk 9 ?_; refine tu 10 ?_; refine tu 11 ?_; refine tu 12 ?_; refine tu 13 ?_; refine tu 14 ?_; refine tk 15 ?_; refine tk 16 ?_; refine wpAnyH_done (by kernel_rfl) ?_ _; go_wp2; go_ret
   exact ⟨ret_bool HF.out.symm, bcall (belowD HB1.out) hb3⟩
 have Q0 := hide q0; clear q0; cases q1 : inP f lo.length 64
 · have Q1 := hide q1
   clear q1; have HF := hide (show B = false by rw [← hB, Q0.out, Q1.out]; rfl); clear hB; unfold planV; go_enter Tryz.func48, Tryz.ntmps48
   go_wp2; rw [HE.out]; go_wp2; refine wp_region_held_drew (S := fun w' => PC w' (w.heap.size) (.int .i64 a) (.int .i64 b) (.int .i64 c) (.int .i64 d) (.int .i64 e) (.int .i64 f) (.int .i64 g) (.int .i64 h) (.int .i64 n) (.slice A lo.length m) (.int .u64 (s : Int)) rg pg pk) (by kernel_rfl) ?_ (fun hHeld => ?_)
   · exact (by first | (with_reducible exact HX.out.drew.cells) | (with_reducible exact (HX.out.drew.below hb3).cells))
   refine tk 0 ?_; refine tk 1 ?_; refine r1 2 (fun K hK => ?_); go_simp; go_at_call 82; (with_reducible refine (Right_cHp n _ lo _ (HO1.out.below (belowD (Below.refl _ _))) true Q0.out).mono ?_); rintro x w3 ⟨rfl, hb3⟩; (try go_simp); refine go_ hK (by first | (with_reducible exact HX.out.drew.cells) | (with_reducible exact (HX.out.drew.below hb3).cells)) (fun hHeld => ?_); refine tk 3 ?_; refine tk 4 ?_; refine tk 5 ?_; refine tk 6 ?_; refine r1 7 (fun K hK => ?_); go_simp; go_at_call 80; (with_reducible refine (pWithin_int f lo.length 64 _).mono ?_); rintro x w4 ⟨rfl, hw4⟩; obtain rfl := hw4.symm; rw [Q1.out]; (try go_simp); refine go_ hK (by first | (with_reducible exact HX.out.drew.cells) | (with_reducible exact (HX.out.drew.below hb3).cells)) (fun hHeld => ?_); refine tk 8 ?_; refine tk 9 ?_; refine tu 10 ?_; refine tu 11 ?_; refine tu 12 ?_; refine tu 13 ?_; refine tu 14 ?_; refine tk 15 ?_; refine tk 16 ?_; refine wpAnyH_done (by kernel_rfl) ?_ _; go_wp2; go_ret
   exact ⟨ret_bool HF.out.symm, bcall (belowD HB1.out) hb3⟩
 have Q1 := hide q1; clear q1; cases q2 : underF s (firstF lo.length)
 · have Q2 := hide q2
   clear q2; have HF := hide (show B = false by rw [← hB, Q0.out, Q1.out, Q2.out]; rfl); clear hB; unfold planV; go_enter Tryz.func48, Tryz.ntmps48
   go_wp2; rw [HE.out]; go_wp2; refine wp_region_held_drew (S := fun w' => PC w' (w.heap.size) (.int .i64 a) (.int .i64 b) (.int .i64 c) (.int .i64 d) (.int .i64 e) (.int .i64 f) (.int .i64 g) (.int .i64 h) (.int .i64 n) (.slice A lo.length m) (.int .u64 (s : Int)) rg pg pk) (by kernel_rfl) ?_ (fun hHeld => ?_)
   · exact (by first | (with_reducible exact HX.out.drew.cells) | (with_reducible exact (HX.out.drew.below hb3).cells))
   refine tk 0 ?_; refine tk 1 ?_; refine r1 2 (fun K hK => ?_); go_simp; go_at_call 82; (with_reducible refine (Right_cHp n _ lo _ (HO1.out.below (belowD (Below.refl _ _))) true Q0.out).mono ?_); rintro x w3 ⟨rfl, hb3⟩; (try go_simp); refine go_ hK (by first | (with_reducible exact HX.out.drew.cells) | (with_reducible exact (HX.out.drew.below hb3).cells)) (fun hHeld => ?_); refine tk 3 ?_; refine tk 4 ?_; refine tk 5 ?_; refine tk 6 ?_; refine r1 7 (fun K hK => ?_); go_simp; go_at_call 80; (with_reducible refine (pWithin_int f lo.length 64 _).mono ?_); rintro x w4 ⟨rfl, hw4⟩; obtain rfl := hw4.symm; rw [Q1.out]; (try go_simp); refine go_ hK (by first | (with_reducible exact HX.out.drew.cells) | (with_reducible exact (HX.out.drew.below hb3).cells)) (fun hHeld => ?_); refine tk 8 ?_; refine tk 9 ?_; refine tk 10 ?_; refine tk 11 ?_; refine tk 12 ?_; refine r1 13 (fun K hK => ?_); go_simp; go_at_call 84; (with_reducible refine (First_any lo.length _ (by omega) (by omega)).mono ?_); rintro x w4 ⟨rfl, hw4⟩; obtain rfl := hw4.symm; (try go_simp); refine go_ hK (by first | (with_reducible exact HX.out.drew.cells) | (with_reducible exact (HX.out.drew.below hb3).cells)) (fun hHeld => ?_); refine r1 14 (fun K hK => ?_); go_simp; go_at_call 83; (with_reducible refine (Under_any s _ _ HS.out (first_lt _)).mono ?_); rintro x w4 ⟨rfl, hw4⟩; obtain rfl := hw4.symm; rw [Q2.out]; (try go_simp); refine go_ hK (by first | (with_reducible exact HX.out.drew.cells) | (with_reducible exact (HX.out.drew.below hb3).cells)) (fun hHeld => ?_); refine tk 15 ?_; refine tk 16 ?_; refine wpAnyH_done (by kernel_rfl) ?_ _; go_wp2; go_ret
   exact ⟨ret_bool HF.out.symm, bcall (belowD HB1.out) hb3⟩
 have Q2 := hide q2; clear q2; have HF := hide (show B = true by rw [← hB, Q0.out, Q1.out, Q2.out]; rfl); clear hB; unfold planV; go_enter Tryz.func48, Tryz.ntmps48
 go_wp2; rw [HE.out]; go_wp2; refine wp_region_held_drew (S := fun w' => PC w' (w.heap.size) (.int .i64 a) (.int .i64 b) (.int .i64 c) (.int .i64 d) (.int .i64 e) (.int .i64 f) (.int .i64 g) (.int .i64 h) (.int .i64 n) (.slice A lo.length m) (.int .u64 (s : Int)) rg pg pk) (by kernel_rfl) ?_ (fun hHeld => ?_)
 · exact (by first | (with_reducible exact HX.out.drew.cells) | (with_reducible exact (HX.out.drew.below hb3).cells))
 refine tk 0 ?_; refine tk 1 ?_; refine r1 2 (fun K hK => ?_); go_simp; go_at_call 82; (with_reducible refine (Right_cHp n _ lo _ (HO1.out.below (belowD (Below.refl _ _))) true Q0.out).mono ?_); rintro x w3 ⟨rfl, hb3⟩; (try go_simp); refine go_ hK (by first | (with_reducible exact HX.out.drew.cells) | (with_reducible exact (HX.out.drew.below hb3).cells)) (fun hHeld => ?_); refine tk 3 ?_; refine tk 4 ?_; refine tk 5 ?_; refine tk 6 ?_; refine r1 7 (fun K hK => ?_); go_simp; go_at_call 80; (with_reducible refine (pWithin_int f lo.length 64 _).mono ?_); rintro x w4 ⟨rfl, hw4⟩; obtain rfl := hw4.symm; rw [Q1.out]; (try go_simp); refine go_ hK (by first | (with_reducible exact HX.out.drew.cells) | (with_reducible exact (HX.out.drew.below hb3).cells)) (fun hHeld => ?_); refine tk 8 ?_; refine tk 9 ?_; refine tk 10 ?_; refine tk 11 ?_; refine tk 12 ?_; refine r1 13 (fun K hK => ?_); go_simp; go_at_call 84; (with_reducible refine (First_any lo.length _ (by omega) (by omega)).mono ?_); rintro x w4 ⟨rfl, hw4⟩; obtain rfl := hw4.symm; (try go_simp); refine go_ hK (by first | (with_reducible exact HX.out.drew.cells) | (with_reducible exact (HX.out.drew.below hb3).cells)) (fun hHeld => ?_); refine r1 14 (fun K hK => ?_); go_simp; go_at_call 83; (with_reducible refine (Under_any s _ _ HS.out (first_lt _)).mono ?_); rintro x w4 ⟨rfl, hw4⟩; obtain rfl := hw4.symm; rw [Q2.out]; (try go_simp); refine go_ hK (by first | (with_reducible exact HX.out.drew.cells) | (with_reducible exact (HX.out.drew.below hb3).cells)) (fun hHeld => ?_); refine tk 15 ?_; refine tk 16 ?_; refine wpAnyH_done (by kernel_rfl) ?_ _; go_wp2; go_ret
 exact ⟨ret_bool HF.out.symm, bcall (belowD HB1.out) hb3⟩
