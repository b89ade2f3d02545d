/- Layer set: the chapter's examples, as the statements ask them first. -/
import Derived.Test.YtnodloeiabbliaaDoorSetParse3
import Derived.Deep.QuietTactic
import Derived.BigQuiet
namespace Go.Proofs.YtnodloeiabbliaaDoor
open Go.RowKit Go.Shelf Go.Proofs

set_option maxHeartbeats 2000000 in
theorem ints_any (va vb : Value) (a b : List Int) (w : World) (ha : Ints w va a) (hb : Ints w vb b) :
    Calls Tryd.prog 22 #[va, vb] w fun e w' => e = .returned (.bool (decide (a = b))) ∧ Below w.heap.size w w' := by
  have ha' := ha
  have hb' := hb
  obtain ⟨A, c, rfl, h1, h2, -⟩ := ha'
  obtain ⟨B, d, rfl, h3, h4, -⟩ := hb'
  unfold maxLen at h2 h4
  have HA := hide ha
  have HB := hide hb
  clear ha hb
  by_cases hn : a.length = b.length
  · have q : (((a.length : Int)) != ((b.length : Int))) = false := by rw [bne_eq_false_iff_eq]; omega
    have HN := hide hn
    clear hn
    go_enter Tryd.func22, Tryd.ntmps22
    go_wp2
    go_loopw [5] (fun i wr => ∃ k : Nat, k ≤ a.length ∧ i = .int .i64 k ∧ Below w.heap.size w wr ∧ Hid (a.take k = b.take k)) (fun i _ => a.length - (Go.RowKit.intOf i).toNat)
    case atStart => exact ⟨0, Nat.zero_le _, rfl, Below.refl _ _, hide (by simp)⟩
    case round =>
      obtain ⟨k, hk, rfl, hbw, HE⟩ := hrel
      by_cases hlt : k < a.length
      · have hlb : k < b.length := by have := HN.out; omega
        obtain ⟨b1, o1, rfl, c0⟩ := ints_at (HA.out.below hbw) hlt
        obtain ⟨b2, o2, rfl, c2⟩ := ints_at (HB.out.below hbw) hlb
        by_cases he : a[k] = b[k]
        · have e1 : (a[k] != b[k]) = false := by rw [bne_eq_false_iff_eq]; exact he
          have HE' := hide (show a.take (k + 1) = b.take (k + 1) by rw [List.take_succ_eq_append_getElem hlt, List.take_succ_eq_append_getElem hlb, HE.out, he])
          clear he
          generalize a[k] = x at *
          generalize b[k] = y at *
          go_wp2
          go_quiet (fail)
          go_wp2
          go_roundw
          case rel => exact ⟨k + 1, by omega, by go_num, bdrewN hbw _, HE'⟩
          case measure => simp [Go.RowKit.intOf]; omega
        · have e1 : (a[k] != b[k]) = true := by rw [bne_iff_ne]; exact he
          have HF := hide (show decide (a = b) = false by
            simp only [decide_eq_false_iff_not]
            intro h
            apply he
            simp [h])
          clear he
          generalize a[k] = x at *
          generalize b[k] = y at *
          go_wp2
          go_quiet (fail)
          go_wp2
          go_ret
          exact ⟨ret_bool HF.out.symm, bdrewN hbw _⟩
      · have HF := hide (show a = b by
          have h := HE.out
          have := HN.out
          rwa [List.take_of_length_le (by omega), List.take_of_length_le (by omega)] at h)
        go_wp2
        go_ret
        exact ⟨ret_bool (by rw [HF.out]; simp), hbw⟩
  · have q : (((a.length : Int)) != ((b.length : Int))) = true := by rw [bne_iff_ne]; omega
    have HN := hide (show decide (a = b) = false by simp; intro e; exact hn (by rw [e]))
    clear hn
    go_enter Tryd.func22, Tryd.ntmps22
    go_wp2
    go_ret
    exact ⟨ret_bool HN.out.symm, Below.refl _ _⟩

/-! ### the examples -/
def exS : Nat := ofF [3, 1, 64, 0, 65, -1]
theorem exP1 : parseF [49, 44, 51, 44, 54, 52] = (exS, 0) := by decide +kernel
theorem exP2 : parseF [51, 44, 49] = (0, 2) := by decide +kernel
theorem exP3 : parseF [45] = (0, 0) := by decide +kernel
theorem exT : textF exS = [49, 44, 51, 44, 54, 52] := by decide +kernel
theorem exH1 : hasF exS 64 = true := by decide +kernel
theorem exH2 : hasF exS 2 = false := by decide +kernel
theorem exH3 : hasF exS 0 = false := by decide +kernel
theorem exC : cntF exS = 3 := by decide +kernel
theorem exA : addF exS 0 = exS := by decide +kernel
theorem exD : delF exS 3 = ofF [1, 64] := by decide +kernel
theorem exL : objs exS = [1, 3, 64] := by decide +kernel
theorem exF2 : firstF 2 = 3 := by decide +kernel
theorem exF9 : firstF 99 = firstF 64 := by decide +kernel
theorem exF0 : firstF (-1) = 0 := by decide +kernel
theorem exU1 : underF (firstF 1) exS = true := by decide +kernel
theorem exU2 : underF exS (firstF 3) = false := by decide +kernel
theorem exB : exS < 18446744073709551616 := ofF_lt _

theorem lit_ints (w : World) (l : List Int) (hl : l.length ≤ 6) : Ints (w.alloc (.cells (l.flatMap ic).toArray 3)) (.slice (some ⟨w.heap.size, 0, none⟩) l.length l.length) l :=
  Sl.of_own (base := 0) ic_len (own_new w 0 (l.flatMap ic) 3 1 l.length (Nat.zero_le _) (by rw [← ic_map]; simp) (by simp [maxLen]; omega))

set_option maxRecDepth 100000 in
set_option maxHeartbeats 8000000 in
theorem examples_any (w : World) (hE : Env w) : Calls Tryd.prog 9 #[] w fun e w' => e = .returned (.bool true) ∧ Below w.heap.size w w' := by
  obtain ⟨S, hS⟩ : ∃ S, exS = S := ⟨_, rfl⟩
  obtain ⟨M, hM⟩ : ∃ M, firstF 64 = M := ⟨_, rfl⟩
  obtain ⟨D, hD⟩ : ∃ D, ofF [1, 64] = D := ⟨_, rfl⟩
  have lS : S < 18446744073709551616 := by rw [← hS]; exact exB
  have lM : M < 18446744073709551616 := by rw [← hM]; exact first_lt _
  have e1 := hide (show ofF [3, 1, 64, 0, 65, -1] = S from hS)
  have p1 := hide (show parseF (⟨#[49, 44, 51, 44, 54, 52]⟩ : ByteArray).data.toList = (S, 0) by rw [← hS]; exact exP1)
  have p2 := hide (show parseF (⟨#[51, 44, 49]⟩ : ByteArray).data.toList = (0, 2) from exP2)
  have p3 := hide (show parseF (⟨#[45]⟩ : ByteArray).data.toList = (0, 0) from exP3)
  have t1 := hide (show textF S = [49, 44, 51, 44, 54, 52] by rw [← hS]; exact exT)
  have h1 := hide (show hasF S 64 = true by rw [← hS]; exact exH1)
  have h2 := hide (show hasF S 2 = false by rw [← hS]; exact exH2)
  have h3 := hide (show hasF S 0 = false by rw [← hS]; exact exH3)
  have c1 := hide (show cntF S = 3 by rw [← hS]; exact exC)
  have a1 := hide (show addF S 0 = S by rw [← hS]; exact exA)
  have d1 := hide (show delF S 3 = D by rw [← hS, ← hD]; exact exD)
  have l1 := hide (show objs S = [1, 3, 64] by rw [← hS]; exact exL)
  have f9 := hide (show firstF 99 = M by rw [← hM]; exact exF9)
  have u1 := hide (show underF (firstF 1) S = true by rw [← hS]; exact exU1)
  have u2 := hide (show underF S (firstF 3) = false by rw [← hS]; exact exU2)
  have HM := hide hM
  have HD := hide hD
  have HE := hide hE
  clear hS hM hD hE
  go_enter Tryd.func9, Tryd.ntmps9
  go_wp2_with fail
  refine (Of_any _ [3, 1, 64, 0, 65, -1] _ (lit_ints w [3, 1, 64, 0, 65, -1] (by decide)) (by decide)).mono ?_
  rintro e w1 ⟨rfl, hw1⟩
  have hb : Below w.heap.size w w1 := by rw [hw1]; exact (Below.refl _ _).alloc (Nat.le_refl _) _
  clear hw1
  rw [e1.out]
  have HE := hide (HE.out.below hb)
  go_wp2_with fail
  (with_reducible refine (Parse_any _ _ (by decide) HE.out).mono ?_)
  rintro e w2 ⟨rfl, hb2⟩
  rw [p1.out]
  have hb := bcall hb hb2
  have HE := hide (HE.out.below hb2)
  go_wp2_with fail
  (with_reducible refine (Parse_any _ _ (by decide) HE.out).mono ?_)
  rintro e w3 ⟨rfl, hb3⟩
  rw [p2.out]
  have hb := bcall hb hb3
  have HE := hide (HE.out.below hb3)
  go_wp2_with fail
  (with_reducible refine (Parse_any _ _ (by decide) HE.out).mono ?_)
  rintro e w4 ⟨rfl, hb4⟩
  rw [p3.out]
  have hb := bcall hb hb4
  have HE := hide (HE.out.below hb4)
  go_wp2_with fail
  (with_reducible refine (Text_any S lS _ HE.out).mono ?_)
  rintro e w5 ⟨rfl, hb5⟩
  rw [t1.out]
  have hb := bcall hb hb5
  have HE := hide (HE.out.below hb5)
  go_wp2_with fail
  (with_reducible refine (Has_any S 64 _ lS (by decide) (by decide)).mono ?_)
  rintro e w6 ⟨rfl, rfl⟩
  rw [h1.out]
  go_wp2_with fail
  (with_reducible refine (Has_any S 2 _ lS (by decide) (by decide)).mono ?_)
  rintro e w7 ⟨rfl, rfl⟩
  rw [h2.out]
  go_wp2_with fail
  (with_reducible refine (Has_any S 0 _ lS (by decide) (by decide)).mono ?_)
  rintro e w8 ⟨rfl, rfl⟩
  rw [h3.out]
  go_wp2_with fail
  (with_reducible refine (Count_any S _ lS).mono ?_)
  rintro e w9 ⟨rfl, rfl⟩
  rw [c1.out]
  go_wp2_with fail
  (with_reducible refine (Add_any S 0 _ lS (by decide) (by decide)).mono ?_)
  rintro e w10 ⟨rfl, rfl⟩
  rw [a1.out]
  go_wp2_with fail
  (with_reducible refine (Del_any S 3 _ lS (by decide) (by decide)).mono ?_)
  rintro e w11 ⟨rfl, rfl⟩
  rw [d1.out]
  go_wp2_with fail
  refine (Of_any _ [1, 64] _ (lit_ints w11 [1, 64] (by decide)) (by decide)).mono ?_
  rintro e wa ⟨rfl, hwa⟩
  have hba : Below w11.heap.size w11 wa := by rw [hwa]; exact (Below.refl _ _).alloc (Nat.le_refl _) _
  clear hwa
  rw [HD.out]
  have hb := bcall hb hba
  have HE := hide (HE.out.below hba)
  go_wp2_with fail
  (with_reducible refine (List_any S lS _ HE.out).mono ?_)
  rintro e wb ⟨v, rfl, hob, hbb⟩
  rw [l1.out] at hob
  have hb := bcall hb hbb
  have HE := hide (HE.out.below hbb)
  have HL := hide (show Ints wb v [1, 3, 64] from Sl.of_own ic_len hob)
  clear hob
  go_wp2_with fail
  refine (ints_any _ _ [1, 3, 64] [1, 3, 64] _ (HL.out.alloc _) (lit_ints wb [1, 3, 64] (by decide))).mono ?_
  rintro e wc ⟨rfl, hbc⟩
  rw [show decide (([1, 3, 64] : List Int) = [1, 3, 64]) = true by decide]
  have hbc := bcall1 (Below.refl _ _) hbc
  have hb := bcall hb hbc
  have HE := hide (HE.out.below hbc)
  go_wp2_with fail
  (with_reducible refine (First_any 2 _ (by decide) (by decide)).mono ?_)
  rintro e w12 ⟨rfl, rfl⟩
  rw [exF2]
  go_wp2_with fail
  (with_reducible refine (First_any 99 _ (by decide) (by decide)).mono ?_)
  rintro e w13 ⟨rfl, rfl⟩
  rw [f9.out]
  go_wp2_with fail
  (with_reducible refine (First_any 64 _ (by decide) (by decide)).mono ?_)
  rintro e w14 ⟨rfl, rfl⟩
  rw [HM.out]
  go_wp2_with fail
  (with_reducible refine (First_any (-1) _ (by decide) (by decide)).mono ?_)
  rintro e w15 ⟨rfl, rfl⟩
  rw [exF0]
  go_wp2_with fail
  (with_reducible refine (First_any 1 _ (by decide) (by decide)).mono ?_)
  rintro e w16 ⟨rfl, rfl⟩
  go_wp2_with fail
  (with_reducible refine (Under_any _ S _ (first_lt 1) lS).mono ?_)
  rintro e w17 ⟨rfl, rfl⟩
  rw [u1.out]
  go_wp2_with fail
  (with_reducible refine (First_any 3 _ (by decide) (by decide)).mono ?_)
  rintro e w18 ⟨rfl, rfl⟩
  go_wp2_with fail
  (with_reducible refine (Under_any S _ _ lS (first_lt 3)).mono ?_)
  rintro e w19 ⟨rfl, rfl⟩
  rw [u2.out]
  go_wp2
  go_ret
  exact ⟨rfl, hb⟩
end Go.Proofs.YtnodloeiabbliaaDoor
