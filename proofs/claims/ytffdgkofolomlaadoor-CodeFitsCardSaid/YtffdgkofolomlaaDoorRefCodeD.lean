/- Layer code: the document's one: the op of a text. -/
import Derived.Test.YtffdgkofolomlaaDoorRefCodeC
namespace Go.Proofs.YtffdgkofolomlaaDoor
open Go.RowKit

def oneV : Option Oq → Value
  | some o => .tuple #[qv o.kind o.r o.a o.s, .bool true]
  | none => .tuple #[qv 0 0 0 0, .bool false]
theorem cone_yes {o : Oq} {t : List UInt8} (h : cRight o 4 4 = true) (e : cText o = t) : cOne t = some o := by subst e; exact one_text h
theorem ba_eq {l : List UInt8} {s : ByteArray} : ((⟨l.toArray⟩ : ByteArray) = s) ↔ l = s.data.toList := by
  constructor
  · rintro rfl; simp
  · intro h
    apply ByteArray.ext
    rw [h]
theorem cbset {n : Nat} {a w : World} (h : Below n a w) (b o : Nat) (hb : n ≤ b) (v : Value) : Below n a (w.setCell ⟨b, o, none⟩ v) := h.setCell (p := ⟨b, o, none⟩) hb v
set_option maxRecDepth 100000 in
set_option maxHeartbeats 8000000 in
theorem rcOne_any (s : ByteArray) (w : World) : Calls Tryd.prog 28 #[.string s] w fun e w' => e = .returned (oneV (cOne s.data.toList)) ∧ Below w.heap.size w w' := by
  obtain ⟨t, ht⟩ : ∃ t, s.data.toList = t := ⟨_, rfl⟩
  rw [ht]
  have HT := hide ht
  clear ht
  obtain ⟨w1, e1, hb1, hs1, Y⟩ := b4_new w (.int .i64 0) (.int .i64 0) (.int .i64 0) (.int .i64 0) 33
  have HE1 := hide e1
  have Y := hide Y
  clear e1
  go_enter Tryd.func28, Tryd.ntmps28
  go_upto_region 1 with (fail)
  rw [HE1.out]
  go_wp2
  go_loopw [4] (fun iv wr => ∃ K : Nat, 1 ≤ K ∧ K ≤ 6 ∧ iv = .int .i64 K ∧ Below w1.heap.size w1 wr ∧ Hid (Lx t K 0 0 0)) (fun iv _ => 6 - (Go.RowKit.intOf iv).toNat)
  case atStart => exact ⟨1, by omega, by omega, rfl, Below.refl _ _, hide (lx_start t)⟩
  case round =>
    obtain ⟨K, hK0, hK, rfl, hb, HL⟩ := hrel
    by_cases hltK : K ≤ 5
    · have dK : decide ((K : Int) ≤ 5) = true := by rw [decide_eq_true_eq]; omega
      go_wp2
      go_loopw [5] (fun iv wr => ∃ R : Nat, R ≤ 4 ∧ iv = .int .i64 R ∧ Below w1.heap.size w1 wr ∧ Hid (Lx t K R 0 0)) (fun iv _ => 4 - (Go.RowKit.intOf iv).toNat)
      case atStart => exact ⟨0, Nat.zero_le _, rfl, hb, HL⟩
      case round =>
        obtain ⟨R, hR, rfl, hb, HL⟩ := hrel
        by_cases hltR : R < 4
        · have dR : decide ((R : Int) < 4) = true := by rw [decide_eq_true_eq]; omega
          go_wp2
          go_loopw [6] (fun iv wr => ∃ A : Nat, A ≤ 4 ∧ iv = .int .i64 A ∧ Below w1.heap.size w1 wr ∧ Hid (Lx t K R A 0)) (fun iv _ => 4 - (Go.RowKit.intOf iv).toNat)
          case atStart => exact ⟨0, Nat.zero_le _, rfl, hb, HL⟩
          case round =>
            obtain ⟨A, hA, rfl, hb, HL⟩ := hrel
            by_cases hltA : A < 4
            · have dA : decide ((A : Int) < 4) = true := by rw [decide_eq_true_eq]; omega
              go_wp2
              go_loopw [7] (fun iv wr => ∃ S : Nat, S ≤ 4 ∧ iv = .int .i64 S ∧ Below w1.heap.size w1 wr ∧ Hid (Lx t K R A S)) (fun iv _ => 4 - (Go.RowKit.intOf iv).toNat)
              case atStart => exact ⟨0, Nat.zero_le _, rfl, hb, HL⟩
              case round =>
                obtain ⟨S, hS, rfl, hb, HL⟩ := hrel
                by_cases hlt : S < 4
                · obtain ⟨w2, e2, hb2, hs2, X⟩ := b4_new wr (.int .i64 K) (.int .i64 R) (.int .i64 A) (.int .i64 S) 33
                  have HE2 := hide e2
                  have X := hide X
                  have hB2 := bcall hb hb2
                  clear e2
                  go_upto_region 14 with (fail)
                  rw [HE2.out]
                  obtain ⟨X0, X1, X2, X3⟩ := X.out.all
                  cases hr : cRight ⟨K, R, A, S⟩ 4 4
                  · have HR := hide hr
                    have HN := hide (show Lx t K R A (S + 1 : Nat) from lx_next HL.out (by rw [hr]; simp))
                    clear hr
                    go_wp2_with fail
                    (with_reducible refine (rcRight_any K R A S 4 4 _).mono ?_)
                    rintro e w3 ⟨rfl, hb3⟩
                    rw [HR.out]
                    have hB3 := bcall hB2 hb3
                    clear X0 X1 X2 X3 hb3
                    go_wp2
                    go_roundw
                    case rel => exact ⟨S + 1, by omega, by go_num, hB3, HN⟩
                    case measure => simp [Go.RowKit.intOf]; omega
                  · by_cases he : cText ⟨K, R, A, S⟩ = t
                    · have HR := hide hr
                      have HF := hide (cone_yes hr he)
                      have q1 : (cText ⟨K, R, A, S⟩ == s.toList) = true := by rw [beq_iff_eq, ByteArray.toList_eq]; exact he.trans HT.out.symm
                      have HQ := hide (show ((⟨(cText ⟨K, R, A, S⟩).toArray⟩ : ByteArray) = s) from ba_eq.2 (he.trans HT.out.symm))
                      clear hr he
                      go_wp2_with fail
                      (with_reducible refine (rcRight_any K R A S 4 4 _).mono ?_)
                      rintro e w3 ⟨rfl, hb3⟩
                      rw [HR.out]
                      have X3_ := hide (X.out.below hb3)
                      have hB3 := bcall hB2 hb3
                      clear X0 X1 X2 X3 hb3
                      obtain ⟨X0, X1, X2, X3⟩ := X3_.out.all
                      go_wp2_with fail
                      (with_reducible refine (rcText_any K R A S _).mono ?_)
                      rintro e w4 ⟨rfl, hb4⟩
                      have X4_ := hide (X3_.out.below hb4)
                      replace hB3 := bcall hB3 hb4
                      clear X0 X1 X2 X3 hb4
                      obtain ⟨X0, X1, X2, X3⟩ := X4_.out.all
                      obtain ⟨Y0, Y1, Y2, Y3⟩ := (Y.out.below hB3).all
                      obtain ⟨Y4, Y5, Y6, Y7⟩ := (Y.out.below hB3).free
                      go_wp2
                      refine bodyPost_ret (v := oneV (some ⟨K, R, A, S⟩)) (by simp [results, Tryd.results28, go_sem, Y0, Y1, Y2, Y3, oneV]) rfl ⟨by rw [HF.out], ?_⟩
                      have hBw := bcall hb1 hB3
                      repeat (first | (with_reducible exact hBw) | (with_reducible refine cbset ?_ _ _ (Nat.le_refl _) _))
                    · have HR := hide hr
                      have HN := hide (show Lx t K R A (S + 1 : Nat) from lx_next HL.out (fun h => he h.2))
                      have q1 : (cText ⟨K, R, A, S⟩ == s.toList) = false := by rw [beq_eq_false_iff_ne, ByteArray.toList_eq]; intro h; exact he (h.trans HT.out)
                      clear hr he
                      go_wp2_with fail
                      (with_reducible refine (rcRight_any K R A S 4 4 _).mono ?_)
                      rintro e w3 ⟨rfl, hb3⟩
                      rw [HR.out]
                      have X3_ := hide (X.out.below hb3)
                      have hB3 := bcall hB2 hb3
                      clear X0 X1 X2 X3 hb3
                      obtain ⟨X0, X1, X2, X3⟩ := X3_.out.all
                      go_wp2_with fail
                      (with_reducible refine (rcText_any K R A S _).mono ?_)
                      rintro e w4 ⟨rfl, hb4⟩
                      have X4_ := hide (X3_.out.below hb4)
                      replace hB3 := bcall hB3 hb4
                      clear X0 X1 X2 X3 hb4
                      obtain ⟨X0, X1, X2, X3⟩ := X4_.out.all
                      go_wp2
                      go_roundw
                      case rel => exact ⟨S + 1, by omega, by go_num, hB3, HN⟩
                      case measure => simp [Go.RowKit.intOf]; omega
                · have hS4 : S = 4 := by omega
                  subst hS4
                  have HN := hide (show Lx t K R (A + 1 : Nat) 0 from lx_a HL.out)
                  go_wp2
                  go_roundw
                  case rel => exact ⟨A + 1, by omega, by go_num, hb, HN⟩
                  case measure => simp [Go.RowKit.intOf]; omega
            · have hA4 : A = 4 := by omega
              subst hA4
              have HN := hide (show Lx t K (R + 1 : Nat) 0 0 from lx_r HL.out)
              go_wp2
              go_roundw
              case rel => exact ⟨R + 1, by omega, by go_num, hb, HN⟩
              case measure => simp [Go.RowKit.intOf]; omega
        · have hR4 : R = 4 := by omega
          subst hR4
          have HN := hide (show Lx t (K + 1 : Nat) 0 0 0 from lx_k HL.out)
          go_wp2
          go_roundw
          case rel => exact ⟨K + 1, by omega, by omega, by go_num, hb, HN⟩
          case measure => simp [Go.RowKit.intOf]; omega
    · have hK6 : K = 6 := by omega
      subst hK6
      have HF := hide (lx_end HL.out)
      obtain ⟨Y0, Y1, Y2, Y3⟩ := (Y.out.below hb).all
      obtain ⟨Y4, Y5, Y6, Y7⟩ := (Y.out.below hb).free
      go_wp2
      refine bodyPost_ret (v := oneV none) (by simp [results, Tryd.results28, go_sem, Y0, Y1, Y2, Y3, oneV]) rfl ⟨by rw [HF.out], ?_⟩
      have hBw := bcall hb1 hb
      repeat (first | (with_reducible exact hBw) | (with_reducible refine cbset ?_ _ _ (Nat.le_refl _) _))
end Go.Proofs.YtffdgkofolomlaaDoor
