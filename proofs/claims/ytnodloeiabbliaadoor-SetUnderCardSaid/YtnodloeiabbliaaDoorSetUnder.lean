/- SetUnder: for any three sets and a number: to be under is an order, and one object less is under. No condition beside the listed tables, which the card ties to the text. -/
import Derived.Test.YtnodloeiabbliaaDoorSetTied
import Derived.Test.YtnodloeiabbliaaDoorSetMore
import Derived.Test.YtnodloeiabbliaaDoorCore3
namespace Go.Proofs.YtnodloeiabbliaaDoor.lawUnder
open Go.RowKit Go.WideShapes Go.ChangeShapes Go.ChangeAt Go.Shelf Go.Proofs Go.Proofs.YtnodloeiabbliaaDoor

theorem Under0 (a : Nat) (w : World) (la : a < 18446744073709551616) :
    Calls Tryd.prog 25 #[.int .u64 0, .int .u64 a] w fun e w' => e = .returned (.bool true) ∧ w' = w := by
  have := Under_any 0 a w (by decide) la
  rw [none_under] at this
  exact this

set_option maxRecDepth 100000 in
set_option maxHeartbeats 8000000 in
theorem walk (a b c : Nat) (o : Int) (w : World) (la : a < 18446744073709551616) (lb : b < 18446744073709551616) (lc : c < 18446744073709551616) (ho : 0 ≤ o ∧ o ≤ 255) (hE : Env w) :
    Calls Tryd.prog 6 #[.int .u64 a, .int .u64 b, .int .u64 c, .int .u8 o] w fun e w' => e = .returned (.bool true) ∧ Below w.heap.size w w' := by
  obtain ⟨i0, hi, hz0, hz1, hz2⟩ := info_parts info3
  have hla := objs_len a
  have hlb := objs_len b
  obtain ⟨O, hO⟩ : ∃ O, a ||| b = O := ⟨_, rfl⟩
  have lO : O < 18446744073709551616 := by rw [← hO]; exact or_lt la lb
  have OB := hide (show ofF (objs a ++ objs b) = O by rw [of_both la lb]; exact hO)
  have UO := hide (show underF a b = decide (cntF O = cntF b) by rw [← hO]; exact under_or la lb)
  have RNG : Hid (∀ x ∈ objs a ++ objs b, -9223372036854775808 ≤ x ∧ x ≤ 9223372036854775807) := hide (fun x hx => by
    rcases List.mem_append.1 hx with h | h <;> (have := objs_rng h; omega))
  have S1 := hide (under_self la)
  have D1 := hide (del_under la (1 + o % 64))
  have A1 := hide (under_all la)
  clear hO
  cases hu : underF a b
  · have U1 := hide hu
    rw [hu] at UO
    have q1 : (((cntF O : Nat) : Int) == ((cntF b : Nat) : Int)) = false := by
      have := UO.out
      rw [beq_eq_false_iff_ne]
      intro h
      have h2 : cntF O = cntF b := by omega
      rw [decide_eq_true h2] at this; cases this
    clear hu
    go_enter Tryd.func6, Tryd.ntmps6
    go_wp2_with fail
    refine (examples_any _ hE).mono ?_
    rintro e w1 ⟨rfl, hb⟩
    have hE := hide (hE.below hb)
    go_wp2_with fail
    (with_reducible refine (Under_any a a _ la la).mono ?_)
    rintro e w2 ⟨rfl, rfl⟩
    rw [S1.out]
    go_wp2_with fail
    (with_reducible refine (Under_any a b _ la lb).mono ?_)
    rintro e w3 ⟨rfl, rfl⟩
    rw [U1.out]
    go_wp2_with fail
    (with_reducible refine (Under_any a b _ la lb).mono ?_)
    rintro e w4 ⟨rfl, rfl⟩
    rw [U1.out]
    go_wp2_with fail
    (with_reducible refine (Del_any a _ _ la (by omega) (by omega)).mono ?_)
    rintro e w5 ⟨rfl, rfl⟩
    go_wp2_with fail
    (with_reducible refine (Under_any _ a _ (del_lt la _) la).mono ?_)
    rintro e w6 ⟨rfl, rfl⟩
    rw [D1.out]
    go_wp2_with fail
    (with_reducible refine (First_any 64 _ (by decide) (by decide)).mono ?_)
    rintro e w7 ⟨rfl, rfl⟩
    go_wp2_with fail
    (with_reducible refine (Under_any a _ _ la (first_lt 64)).mono ?_)
    rintro e w8 ⟨rfl, rfl⟩
    rw [A1.out]
    go_wp2_with fail
    (with_reducible refine (Under0 a _ la).mono ?_)
    rintro e w9 ⟨rfl, rfl⟩
    go_wp2_with fail
    (with_reducible refine (Under_any a b _ la lb).mono ?_)
    rintro e w10 ⟨rfl, rfl⟩
    rw [U1.out]
    go_wp2_with fail
    (with_reducible refine (Under_any a b _ la lb).mono ?_)
    rintro e w11 ⟨rfl, rfl⟩
    rw [U1.out]
    go_wp2_with fail
    (with_reducible refine (List_any a la _ hE.out).mono ?_)
    rintro e wa ⟨va, rfl, hoa, hba⟩
    have hE2 := hide (hE.out.below hba)
    go_wp2_with fail
    (with_reducible refine (List_any b lb _ hE2.out).mono ?_)
    rintro e wb ⟨vb, rfl, hob, hbb⟩
    have hoa2 := own_below hoa hbb
    have hIb := hide (show Ints wb vb (objs b) from Sl.of_own ic_len hob)
    have hsz := hba.size
    have hsz2 := hbb.size
    have hba2 := bcall hba hbb
    have hba3 := bcall hb hba2
    clear hoa hob
    go_wp2_with (at_builtin; refine wpList_append_sl_g _ (by simp [Region.wanted, yielded]) _ _ 24 rfl _ 3 i0 (.int .i64 0) 1 8 Tryd.underlying24 hi hz0 hz1 hz2 rfl (by decide) _ _ _ rfl hoa2 _ (objs b) rfl hIb.out ic_len (fun p u hu => by simp [ic] at hu; subst hu; rfl) (by simp only [maxLen]; omega) (by omega) (by omega) ?_; intro vc wc hoc hbc)
    have hIc := hide (show Ints wc vc (objs a ++ objs b) from Sl.of_own ic_len (by rw [List.length_append, List.flatMap_append]; exact hoc))
    have hbd := hba3.trans (hbc.mono (Nat.le_trans hb.size (Nat.le_refl _)))
    (with_reducible refine (Of_any _ (objs a ++ objs b) _ hIc.out RNG.out).mono ?_)
    rintro e wd ⟨rfl, rfl⟩
    rw [OB.out]
    go_wp2_with fail
    (with_reducible refine (Count_any O _ lO).mono ?_)
    rintro e w12 ⟨rfl, rfl⟩
    go_wp2_with fail
    (with_reducible refine (Count_any b _ lb).mono ?_)
    rintro e w13 ⟨rfl, rfl⟩
    go_wp2
    go_ret
    exact ⟨rfl, hbd⟩
  · have U1 := hide hu
    have UB := hide (under_both la lb hu)
    have hcnt : cntF a ≤ cntF b := under_cnt la lb hu
    rw [hu] at UO
    have q1 : (((cntF O : Nat) : Int) == ((cntF b : Nat) : Int)) = true := by
      have := of_decide_eq_true UO.out.symm
      rw [this]; simp
    have q2 : (((cntF a : Nat) : Int) ≤ ((cntF b : Nat) : Int)) := by omega
    have UT : Hid (underF b c = true → underF a c = true) := hide (fun h => under_trans la lb lc hu h)
    clear hu hcnt
    by_cases heq : a = b
    · have e1 : ((a : Int) == (b : Int)) = true := by rw [heq]; simp
      have EB := hide (UB.out.trans (decide_eq_true heq))
      clear heq
      cases huc : underF b c
      · have UC := hide huc
        clear huc
        go_enter Tryd.func6, Tryd.ntmps6
        go_wp2_with fail
        refine (examples_any _ hE).mono ?_
        rintro e w1 ⟨rfl, hb⟩
        have hE := hide (hE.below hb)
        go_wp2_with fail
        (with_reducible refine (Under_any a a _ la la).mono ?_)
        rintro e w14 ⟨rfl, rfl⟩
        rw [S1.out]
        go_wp2_with fail
        (with_reducible refine (Under_any a b _ la lb).mono ?_)
        rintro e w15 ⟨rfl, rfl⟩
        rw [U1.out]
        go_wp2_with fail
        (with_reducible refine (Under_any b a _ lb la).mono ?_)
        rintro e w16 ⟨rfl, rfl⟩
        rw [EB.out]
        go_wp2_with fail
        (with_reducible refine (Under_any a b _ la lb).mono ?_)
        rintro e w17 ⟨rfl, rfl⟩
        rw [U1.out]
        go_wp2_with fail
        (with_reducible refine (Under_any b c _ lb lc).mono ?_)
        rintro e w18 ⟨rfl, rfl⟩
        rw [UC.out]
        go_wp2_with fail
        (with_reducible refine (Del_any a _ _ la (by omega) (by omega)).mono ?_)
        rintro e w19 ⟨rfl, rfl⟩
        go_wp2_with fail
        (with_reducible refine (Under_any _ a _ (del_lt la _) la).mono ?_)
        rintro e w20 ⟨rfl, rfl⟩
        rw [D1.out]
        go_wp2_with fail
        (with_reducible refine (First_any 64 _ (by decide) (by decide)).mono ?_)
        rintro e w21 ⟨rfl, rfl⟩
        go_wp2_with fail
        (with_reducible refine (Under_any a _ _ la (first_lt 64)).mono ?_)
        rintro e w22 ⟨rfl, rfl⟩
        rw [A1.out]
        go_wp2_with fail
        (with_reducible refine (Under0 a _ la).mono ?_)
        rintro e w23 ⟨rfl, rfl⟩
        go_wp2_with fail
        (with_reducible refine (Under_any a b _ la lb).mono ?_)
        rintro e w24 ⟨rfl, rfl⟩
        rw [U1.out]
        go_wp2_with fail
        (with_reducible refine (Count_any a _ la).mono ?_)
        rintro e w25 ⟨rfl, rfl⟩
        go_wp2_with fail
        (with_reducible refine (Count_any b _ lb).mono ?_)
        rintro e w26 ⟨rfl, rfl⟩
        go_wp2_with fail
        (with_reducible refine (Under_any a b _ la lb).mono ?_)
        rintro e w27 ⟨rfl, rfl⟩
        rw [U1.out]
        go_wp2_with fail
        (with_reducible refine (List_any a la _ hE.out).mono ?_)
        rintro e wa ⟨va, rfl, hoa, hba⟩
        have hE2 := hide (hE.out.below hba)
        go_wp2_with fail
        (with_reducible refine (List_any b lb _ hE2.out).mono ?_)
        rintro e wb ⟨vb, rfl, hob, hbb⟩
        have hoa2 := own_below hoa hbb
        have hIb := hide (show Ints wb vb (objs b) from Sl.of_own ic_len hob)
        have hsz := hba.size
        have hsz2 := hbb.size
        have hba2 := bcall hba hbb
        have hba3 := bcall hb hba2
        clear hoa hob
        go_wp2_with (at_builtin; refine wpList_append_sl_g _ (by simp [Region.wanted, yielded]) _ _ 24 rfl _ 3 i0 (.int .i64 0) 1 8 Tryd.underlying24 hi hz0 hz1 hz2 rfl (by decide) _ _ _ rfl hoa2 _ (objs b) rfl hIb.out ic_len (fun p u hu => by simp [ic] at hu; subst hu; rfl) (by simp only [maxLen]; omega) (by omega) (by omega) ?_; intro vc wc hoc hbc)
        have hIc := hide (show Ints wc vc (objs a ++ objs b) from Sl.of_own ic_len (by rw [List.length_append, List.flatMap_append]; exact hoc))
        have hbd := hba3.trans (hbc.mono (Nat.le_trans hb.size (Nat.le_refl _)))
        (with_reducible refine (Of_any _ (objs a ++ objs b) _ hIc.out RNG.out).mono ?_)
        rintro e wd ⟨rfl, rfl⟩
        rw [OB.out]
        go_wp2_with fail
        (with_reducible refine (Count_any O _ lO).mono ?_)
        rintro e w28 ⟨rfl, rfl⟩
        go_wp2_with fail
        (with_reducible refine (Count_any b _ lb).mono ?_)
        rintro e w29 ⟨rfl, rfl⟩
        go_wp2
        go_ret
        exact ⟨rfl, hbd⟩
      · have UC := hide huc
        have UA := hide (UT.out huc)
        clear huc
        go_enter Tryd.func6, Tryd.ntmps6
        go_wp2_with fail
        refine (examples_any _ hE).mono ?_
        rintro e w1 ⟨rfl, hb⟩
        have hE := hide (hE.below hb)
        go_wp2_with fail
        (with_reducible refine (Under_any a a _ la la).mono ?_)
        rintro e w30 ⟨rfl, rfl⟩
        rw [S1.out]
        go_wp2_with fail
        (with_reducible refine (Under_any a b _ la lb).mono ?_)
        rintro e w31 ⟨rfl, rfl⟩
        rw [U1.out]
        go_wp2_with fail
        (with_reducible refine (Under_any b a _ lb la).mono ?_)
        rintro e w32 ⟨rfl, rfl⟩
        rw [EB.out]
        go_wp2_with fail
        (with_reducible refine (Under_any a b _ la lb).mono ?_)
        rintro e w33 ⟨rfl, rfl⟩
        rw [U1.out]
        go_wp2_with fail
        (with_reducible refine (Under_any b c _ lb lc).mono ?_)
        rintro e w34 ⟨rfl, rfl⟩
        rw [UC.out]
        go_wp2_with fail
        (with_reducible refine (Under_any a c _ la lc).mono ?_)
        rintro e w35 ⟨rfl, rfl⟩
        rw [UA.out]
        go_wp2_with fail
        (with_reducible refine (Del_any a _ _ la (by omega) (by omega)).mono ?_)
        rintro e w36 ⟨rfl, rfl⟩
        go_wp2_with fail
        (with_reducible refine (Under_any _ a _ (del_lt la _) la).mono ?_)
        rintro e w37 ⟨rfl, rfl⟩
        rw [D1.out]
        go_wp2_with fail
        (with_reducible refine (First_any 64 _ (by decide) (by decide)).mono ?_)
        rintro e w38 ⟨rfl, rfl⟩
        go_wp2_with fail
        (with_reducible refine (Under_any a _ _ la (first_lt 64)).mono ?_)
        rintro e w39 ⟨rfl, rfl⟩
        rw [A1.out]
        go_wp2_with fail
        (with_reducible refine (Under0 a _ la).mono ?_)
        rintro e w40 ⟨rfl, rfl⟩
        go_wp2_with fail
        (with_reducible refine (Under_any a b _ la lb).mono ?_)
        rintro e w41 ⟨rfl, rfl⟩
        rw [U1.out]
        go_wp2_with fail
        (with_reducible refine (Count_any a _ la).mono ?_)
        rintro e w42 ⟨rfl, rfl⟩
        go_wp2_with fail
        (with_reducible refine (Count_any b _ lb).mono ?_)
        rintro e w43 ⟨rfl, rfl⟩
        go_wp2_with fail
        (with_reducible refine (Under_any a b _ la lb).mono ?_)
        rintro e w44 ⟨rfl, rfl⟩
        rw [U1.out]
        go_wp2_with fail
        (with_reducible refine (List_any a la _ hE.out).mono ?_)
        rintro e wa ⟨va, rfl, hoa, hba⟩
        have hE2 := hide (hE.out.below hba)
        go_wp2_with fail
        (with_reducible refine (List_any b lb _ hE2.out).mono ?_)
        rintro e wb ⟨vb, rfl, hob, hbb⟩
        have hoa2 := own_below hoa hbb
        have hIb := hide (show Ints wb vb (objs b) from Sl.of_own ic_len hob)
        have hsz := hba.size
        have hsz2 := hbb.size
        have hba2 := bcall hba hbb
        have hba3 := bcall hb hba2
        clear hoa hob
        go_wp2_with (at_builtin; refine wpList_append_sl_g _ (by simp [Region.wanted, yielded]) _ _ 24 rfl _ 3 i0 (.int .i64 0) 1 8 Tryd.underlying24 hi hz0 hz1 hz2 rfl (by decide) _ _ _ rfl hoa2 _ (objs b) rfl hIb.out ic_len (fun p u hu => by simp [ic] at hu; subst hu; rfl) (by simp only [maxLen]; omega) (by omega) (by omega) ?_; intro vc wc hoc hbc)
        have hIc := hide (show Ints wc vc (objs a ++ objs b) from Sl.of_own ic_len (by rw [List.length_append, List.flatMap_append]; exact hoc))
        have hbd := hba3.trans (hbc.mono (Nat.le_trans hb.size (Nat.le_refl _)))
        (with_reducible refine (Of_any _ (objs a ++ objs b) _ hIc.out RNG.out).mono ?_)
        rintro e wd ⟨rfl, rfl⟩
        rw [OB.out]
        go_wp2_with fail
        (with_reducible refine (Count_any O _ lO).mono ?_)
        rintro e w45 ⟨rfl, rfl⟩
        go_wp2_with fail
        (with_reducible refine (Count_any b _ lb).mono ?_)
        rintro e w46 ⟨rfl, rfl⟩
        go_wp2
        go_ret
        exact ⟨rfl, hbd⟩
    · have e1 : ((a : Int) == (b : Int)) = false := by rw [beq_eq_false_iff_ne]; omega
      have EB := hide (UB.out.trans (decide_eq_false heq))
      clear heq
      cases huc : underF b c
      · have UC := hide huc
        clear huc
        go_enter Tryd.func6, Tryd.ntmps6
        go_wp2_with fail
        refine (examples_any _ hE).mono ?_
        rintro e w1 ⟨rfl, hb⟩
        have hE := hide (hE.below hb)
        go_wp2_with fail
        (with_reducible refine (Under_any a a _ la la).mono ?_)
        rintro e w47 ⟨rfl, rfl⟩
        rw [S1.out]
        go_wp2_with fail
        (with_reducible refine (Under_any a b _ la lb).mono ?_)
        rintro e w48 ⟨rfl, rfl⟩
        rw [U1.out]
        go_wp2_with fail
        (with_reducible refine (Under_any b a _ lb la).mono ?_)
        rintro e w49 ⟨rfl, rfl⟩
        rw [EB.out]
        go_wp2_with fail
        (with_reducible refine (Under_any a b _ la lb).mono ?_)
        rintro e w50 ⟨rfl, rfl⟩
        rw [U1.out]
        go_wp2_with fail
        (with_reducible refine (Under_any b c _ lb lc).mono ?_)
        rintro e w51 ⟨rfl, rfl⟩
        rw [UC.out]
        go_wp2_with fail
        (with_reducible refine (Del_any a _ _ la (by omega) (by omega)).mono ?_)
        rintro e w52 ⟨rfl, rfl⟩
        go_wp2_with fail
        (with_reducible refine (Under_any _ a _ (del_lt la _) la).mono ?_)
        rintro e w53 ⟨rfl, rfl⟩
        rw [D1.out]
        go_wp2_with fail
        (with_reducible refine (First_any 64 _ (by decide) (by decide)).mono ?_)
        rintro e w54 ⟨rfl, rfl⟩
        go_wp2_with fail
        (with_reducible refine (Under_any a _ _ la (first_lt 64)).mono ?_)
        rintro e w55 ⟨rfl, rfl⟩
        rw [A1.out]
        go_wp2_with fail
        (with_reducible refine (Under0 a _ la).mono ?_)
        rintro e w56 ⟨rfl, rfl⟩
        go_wp2_with fail
        (with_reducible refine (Under_any a b _ la lb).mono ?_)
        rintro e w57 ⟨rfl, rfl⟩
        rw [U1.out]
        go_wp2_with fail
        (with_reducible refine (Count_any a _ la).mono ?_)
        rintro e w58 ⟨rfl, rfl⟩
        go_wp2_with fail
        (with_reducible refine (Count_any b _ lb).mono ?_)
        rintro e w59 ⟨rfl, rfl⟩
        go_wp2_with fail
        (with_reducible refine (Under_any a b _ la lb).mono ?_)
        rintro e w60 ⟨rfl, rfl⟩
        rw [U1.out]
        go_wp2_with fail
        (with_reducible refine (List_any a la _ hE.out).mono ?_)
        rintro e wa ⟨va, rfl, hoa, hba⟩
        have hE2 := hide (hE.out.below hba)
        go_wp2_with fail
        (with_reducible refine (List_any b lb _ hE2.out).mono ?_)
        rintro e wb ⟨vb, rfl, hob, hbb⟩
        have hoa2 := own_below hoa hbb
        have hIb := hide (show Ints wb vb (objs b) from Sl.of_own ic_len hob)
        have hsz := hba.size
        have hsz2 := hbb.size
        have hba2 := bcall hba hbb
        have hba3 := bcall hb hba2
        clear hoa hob
        go_wp2_with (at_builtin; refine wpList_append_sl_g _ (by simp [Region.wanted, yielded]) _ _ 24 rfl _ 3 i0 (.int .i64 0) 1 8 Tryd.underlying24 hi hz0 hz1 hz2 rfl (by decide) _ _ _ rfl hoa2 _ (objs b) rfl hIb.out ic_len (fun p u hu => by simp [ic] at hu; subst hu; rfl) (by simp only [maxLen]; omega) (by omega) (by omega) ?_; intro vc wc hoc hbc)
        have hIc := hide (show Ints wc vc (objs a ++ objs b) from Sl.of_own ic_len (by rw [List.length_append, List.flatMap_append]; exact hoc))
        have hbd := hba3.trans (hbc.mono (Nat.le_trans hb.size (Nat.le_refl _)))
        (with_reducible refine (Of_any _ (objs a ++ objs b) _ hIc.out RNG.out).mono ?_)
        rintro e wd ⟨rfl, rfl⟩
        rw [OB.out]
        go_wp2_with fail
        (with_reducible refine (Count_any O _ lO).mono ?_)
        rintro e w61 ⟨rfl, rfl⟩
        go_wp2_with fail
        (with_reducible refine (Count_any b _ lb).mono ?_)
        rintro e w62 ⟨rfl, rfl⟩
        go_wp2
        go_ret
        exact ⟨rfl, hbd⟩
      · have UC := hide huc
        have UA := hide (UT.out huc)
        clear huc
        go_enter Tryd.func6, Tryd.ntmps6
        go_wp2_with fail
        refine (examples_any _ hE).mono ?_
        rintro e w1 ⟨rfl, hb⟩
        have hE := hide (hE.below hb)
        go_wp2_with fail
        (with_reducible refine (Under_any a a _ la la).mono ?_)
        rintro e w63 ⟨rfl, rfl⟩
        rw [S1.out]
        go_wp2_with fail
        (with_reducible refine (Under_any a b _ la lb).mono ?_)
        rintro e w64 ⟨rfl, rfl⟩
        rw [U1.out]
        go_wp2_with fail
        (with_reducible refine (Under_any b a _ lb la).mono ?_)
        rintro e w65 ⟨rfl, rfl⟩
        rw [EB.out]
        go_wp2_with fail
        (with_reducible refine (Under_any a b _ la lb).mono ?_)
        rintro e w66 ⟨rfl, rfl⟩
        rw [U1.out]
        go_wp2_with fail
        (with_reducible refine (Under_any b c _ lb lc).mono ?_)
        rintro e w67 ⟨rfl, rfl⟩
        rw [UC.out]
        go_wp2_with fail
        (with_reducible refine (Under_any a c _ la lc).mono ?_)
        rintro e w68 ⟨rfl, rfl⟩
        rw [UA.out]
        go_wp2_with fail
        (with_reducible refine (Del_any a _ _ la (by omega) (by omega)).mono ?_)
        rintro e w69 ⟨rfl, rfl⟩
        go_wp2_with fail
        (with_reducible refine (Under_any _ a _ (del_lt la _) la).mono ?_)
        rintro e w70 ⟨rfl, rfl⟩
        rw [D1.out]
        go_wp2_with fail
        (with_reducible refine (First_any 64 _ (by decide) (by decide)).mono ?_)
        rintro e w71 ⟨rfl, rfl⟩
        go_wp2_with fail
        (with_reducible refine (Under_any a _ _ la (first_lt 64)).mono ?_)
        rintro e w72 ⟨rfl, rfl⟩
        rw [A1.out]
        go_wp2_with fail
        (with_reducible refine (Under0 a _ la).mono ?_)
        rintro e w73 ⟨rfl, rfl⟩
        go_wp2_with fail
        (with_reducible refine (Under_any a b _ la lb).mono ?_)
        rintro e w74 ⟨rfl, rfl⟩
        rw [U1.out]
        go_wp2_with fail
        (with_reducible refine (Count_any a _ la).mono ?_)
        rintro e w75 ⟨rfl, rfl⟩
        go_wp2_with fail
        (with_reducible refine (Count_any b _ lb).mono ?_)
        rintro e w76 ⟨rfl, rfl⟩
        go_wp2_with fail
        (with_reducible refine (Under_any a b _ la lb).mono ?_)
        rintro e w77 ⟨rfl, rfl⟩
        rw [U1.out]
        go_wp2_with fail
        (with_reducible refine (List_any a la _ hE.out).mono ?_)
        rintro e wa ⟨va, rfl, hoa, hba⟩
        have hE2 := hide (hE.out.below hba)
        go_wp2_with fail
        (with_reducible refine (List_any b lb _ hE2.out).mono ?_)
        rintro e wb ⟨vb, rfl, hob, hbb⟩
        have hoa2 := own_below hoa hbb
        have hIb := hide (show Ints wb vb (objs b) from Sl.of_own ic_len hob)
        have hsz := hba.size
        have hsz2 := hbb.size
        have hba2 := bcall hba hbb
        have hba3 := bcall hb hba2
        clear hoa hob
        go_wp2_with (at_builtin; refine wpList_append_sl_g _ (by simp [Region.wanted, yielded]) _ _ 24 rfl _ 3 i0 (.int .i64 0) 1 8 Tryd.underlying24 hi hz0 hz1 hz2 rfl (by decide) _ _ _ rfl hoa2 _ (objs b) rfl hIb.out ic_len (fun p u hu => by simp [ic] at hu; subst hu; rfl) (by simp only [maxLen]; omega) (by omega) (by omega) ?_; intro vc wc hoc hbc)
        have hIc := hide (show Ints wc vc (objs a ++ objs b) from Sl.of_own ic_len (by rw [List.length_append, List.flatMap_append]; exact hoc))
        have hbd := hba3.trans (hbc.mono (Nat.le_trans hb.size (Nat.le_refl _)))
        (with_reducible refine (Of_any _ (objs a ++ objs b) _ hIc.out RNG.out).mono ?_)
        rintro e wd ⟨rfl, rfl⟩
        rw [OB.out]
        go_wp2_with fail
        (with_reducible refine (Count_any O _ lO).mono ?_)
        rintro e w78 ⟨rfl, rfl⟩
        go_wp2_with fail
        (with_reducible refine (Count_any b _ lb).mono ?_)
        rintro e w79 ⟨rfl, rfl⟩
        go_wp2
        go_ret
        exact ⟨rfl, hbd⟩

set_option maxRecDepth 100000 in
theorem lifted (os : Os) (started : os.Started) (H : Type) (enc : TypeId × Value → H) :
    ReturnsInHanded {} Tryd.checked os 6 .any (fun w args => (Rows.setUnderSpec.pre enc Tryd.prog Tryd.f6 Rows.setUnderRow.domain false w args ∧ laidMetH Tryd.prog Rows.setUnderRow.laid w) ∧ sizedMet enc Tryd.prog Tryd.f6 (OpenSpec.ofChange Rows.setUnderSpec) false w args) (Rows.setUnderSpec.post enc Tryd.prog Tryd.f6 false true false false) := by
  refine handed_and_shaped (C := Tryd.checked) (X := fun w _ => laidMetH Tryd.prog Rows.setUnderRow.laid w) (fun _ _ _ hh h => h.of_heap hh) ownL started (by kernel_rfl) Tryd.func6
    (ChangeSpec.witness_shaped (enc := enc) (C := Tryd.checked) (os := os) (X := fun w _ => laidMetH Tryd.prog Rows.setUnderRow.laid w) false (World.laidAll Tryd.prog os Rows.setUnderRow.laid) #[.int .u64 0, .int .u64 0, .int .u64 0, .int .u8 0] 8 (World.laidAll_os _ _ _)
      (World.shaped_of_ZipB (by kernel_rfl) (by kernel_rfl)) (by kernel_rfl) (by kernel_rfl) (by kernel_rfl)
      (by rw [MakeChecks.laidMetH_plain _ _ _ (by kernel_rfl)]; exact laidMet_laidAll _ (by kernel_rfl) (by kernel_rfl))) ?_
  intro W base args ds gs before hval0 hW hsz0 hL hsh
  have hval : ∀ (j : Nat) t v, Tryd.f6.params[j]? = some t → args[j]? = some v → Value.okWide Tryd.prog W .any base t v := hval0
  have hW' := hW
  obtain ⟨p, q, hA0, hV, rfl, hfz, hnd⟩ := hW
  have hA : DataW.TrodAll enc Tryd.prog W 0 (fun _ => true) true Tryd.f6.params.toList args.toList ds p := hA0
  rw [Tryd.params6] at hA hval
  obtain ⟨v0, vs0, d0, ds0, p0, q0, hargs, rfl, rfl, h0, r0⟩ := trodAll_cons hA
  obtain ⟨v1, vs1, d1, ds1, p1, q1, rfl, rfl, rfl, h1, r1⟩ := trodAll_cons r0
  obtain ⟨v2, vs2, d2, ds2, p2, q2, rfl, rfl, rfl, h2, r2⟩ := trodAll_cons r1
  obtain ⟨v3, vs3, d3, ds3, p3, q3, rfl, rfl, rfl, h3, r3⟩ := trodAll_cons r2
  obtain ⟨rfl, rfl, rfl⟩ := trodAll_nil r3
  obtain rfl : args = #[v0, v1, v2, v3] := by cases args; simp_all
  obtain ⟨rfl, rfl⟩ := trodVars_none hV
  obtain ⟨a0, rfl, rfl, rfl, w0⟩ := open_int Tryd.underlying23 (hval 0 23 v0 rfl rfl) h0
  have hx0 : 0 ≤ a0 ∧ a0 ≤ 18446744073709551615 := by simpa [Lit.wf, IntKind.min, IntKind.max, IntKind.signed, IntKind.bits] using w0
  obtain ⟨n0, rfl⟩ : ∃ n : Nat, a0 = n := ⟨a0.toNat, by omega⟩
  obtain ⟨a1, rfl, rfl, rfl, w1⟩ := open_int Tryd.underlying23 (hval 1 23 v1 rfl rfl) h1
  have hx1 : 0 ≤ a1 ∧ a1 ≤ 18446744073709551615 := by simpa [Lit.wf, IntKind.min, IntKind.max, IntKind.signed, IntKind.bits] using w1
  obtain ⟨n1, rfl⟩ : ∃ n : Nat, a1 = n := ⟨a1.toNat, by omega⟩
  obtain ⟨a2, rfl, rfl, rfl, w2⟩ := open_int Tryd.underlying23 (hval 2 23 v2 rfl rfl) h2
  have hx2 : 0 ≤ a2 ∧ a2 ≤ 18446744073709551615 := by simpa [Lit.wf, IntKind.min, IntKind.max, IntKind.signed, IntKind.bits] using w2
  obtain ⟨n2, rfl⟩ : ∃ n : Nat, a2 = n := ⟨a2.toNat, by omega⟩
  obtain ⟨a3, rfl, rfl, rfl, w3⟩ := open_int Tryd.underlying5 (hval 3 5 v3 rfl rfl) h3
  have hx3 : 0 ≤ a3 ∧ a3 ≤ 255 := by simpa [Lit.wf, IntKind.min, IntKind.max, IntKind.signed, IntKind.bits] using w3
  have hE := env_of_laid hL hsh
  refine (walk n0 n1 n2 a3 W (by omega) (by omega) (by omega) hx3 hE).mono fun e W' ⟨he, hg⟩ => ?_
  subst he
  exact ⟨_, rfl, law_post laidOutL (by kernel_rfl) rfl Tryd.underlying4 rfl ⟨rfl, rfl, rfl⟩ hW' hg⟩
theorem row_holds : Rows.SetUnderSaid :=
  OpenClaim.holds_of_wide 6 Tryd.f6 rfl rfl rfl rfl rfl rfl rfl ⟨rfl, rfl, rfl, rfl, rfl⟩ rfl rfl rfl rfl rfl (by kernel_rfl) Tryd.func6 (by kernel_rfl)
    (of_decide_eq_true (by kernel_rfl)) (by unfold Func.isWrapper; first | (rw [if_pos (by decide +kernel)]; kernel_rfl) | (rw [if_neg (by decide +kernel)]; exact ⟨rfl, rfl⟩))
    (fun os started H enc _ => lifted os started H enc)

/-- THE STATEMENT -/
theorem proved : Rows.SetUnderCardSaid :=
  Claim7.holds_tied_plain_at .later [] Rows.setUnderCard.laidKinds true Rows.setUnderCard.stood.harness Rows.setUnderCard.stood.looks
    row_holds (fun _ h => by cases h) (by kernel_rfl) (fun _ h => by cases h) setUnder_row_tie rfl ⟨rfl, rfl⟩ (by kernel_rfl) rfl
    (fun f fn hf hfn => by
      obtain rfl : f = 6 := Option.some.inj ((show Tryd.prog.funcNamed Rows.setUnderRow.func = some 6 by kernel_rfl).symm.trans hf) |>.symm
      obtain rfl : fn = Tryd.f6 := (Option.some.inj (Tryd.func6.symm.trans hfn)).symm
      exact ⟨by kernel_rfl, fun j t ht => by
        rw [Tryd.params6] at ht
        have hm : t ∈ [23, 23, 23, 5] := by simpa using Array.mem_of_getElem? ht
        have hall : ([23, 23, 23, 5].all fun u => !Tryd.prog.wantsStandIn u) = true := by kernel_rfl
        exact (show Tryd.prog.wantsStandIn t = false by simpa using List.all_eq_true.1 hall t hm)⟩)
    (by kernel_rfl)
end Go.Proofs.YtnodloeiabbliaaDoor.lawUnder
