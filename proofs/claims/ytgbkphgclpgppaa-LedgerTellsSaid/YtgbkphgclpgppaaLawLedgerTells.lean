/- LedgerTells: of any two ledgers, a mutator, three numbers all is told as the chapter says (the document's own answer). No condition. -/
import Derived.Test.YtgbkphgclpgppaaLedgerOpen
import Derived.Test.YtgbkphgclpgppaaRefLedgerR
import Derived.Test.YtgbkphgclpgppaaHeldImp
namespace Go.Proofs.Ytgbkphgclpgppaa.lawLedgerTells
open Go.RowKit Go.WideShapes Go.ChangeShapes Go.ChangeAt Go.Proofs Go.Proofs.Ytgbkphgclpgppaa

set_option maxRecDepth 100000 in
set_option maxHeartbeats 16000000 in
theorem walk (a b c : Int) (v : Value) (l : List Int) (a' b' c' : Int) (v' : Value) (l' : List Int) (who want price limit : Int) (hbig : l.length * 8 ≤ 140737488351232) (w : World) (h : Ints w v l) (h2 : Ints w v' l') :
    Calls Try.prog 3 #[lv a b c v, lv a' b' c' v', .int .i64 who, .int .i64 want, .int .i64 price, .int .i64 limit] w fun e w' => e = .returned (.bool true) ∧ Below w.heap.size w w' := by
  have HI := hide h
  have HJ := hide h2
  have HBG := hide hbig
  obtain ⟨A, m0, rfl, ha1, ha2, -⟩ := id h
  obtain ⟨D, m9, rfl, hd1, hd2, -⟩ := id h2
  unfold maxLen at ha2 hd2
  have hB : Below w.heap.size w w := Below.refl _ _
  obtain ⟨⟨ta, tb, tc, tl⟩, h_HTA⟩ : ∃ R, lTake ⟨a, b, c, l⟩ who want = R := ⟨_, rfl⟩
  have HTA := hide h_HTA
  clear h_HTA
  obtain ⟨tk, h_HTK⟩ : ∃ R, lTook ⟨a, b, c, l⟩ who want = R := ⟨_, rfl⟩
  have HTK := hide h_HTK
  clear h_HTK
  obtain ⟨NT, h_HNT⟩ : ∃ R, tl.length = R := ⟨_, rfl⟩
  have HNT := hide h_HNT
  clear h_HNT
  obtain ⟨d, h_HM⟩ : ∃ R, lMay ⟨a, b, c, l⟩ who price limit = R := ⟨_, rfl⟩
  have HM := hide h_HM
  clear h_HM
  obtain ⟨⟨pa, pb, pc, pl⟩, h_HSP⟩ : ∃ R, lSpend ⟨a, b, c, l⟩ who price limit = R := ⟨_, rfl⟩
  have HSP := hide h_HSP
  clear h_HSP
  obtain ⟨NP, h_HNP⟩ : ∃ R, pl.length = R := ⟨_, rfl⟩
  have HNP := hide h_HNP
  clear h_HNP
  obtain ⟨⟨ea, eb, ec, el⟩, h_HEA⟩ : ∃ R, lEarn ⟨a, b, c, l⟩ who = R := ⟨_, rfl⟩
  have HEA := hide h_HEA
  clear h_HEA
  obtain ⟨NE, h_HNE⟩ : ∃ R, el.length = R := ⟨_, rfl⟩
  have HNE := hide h_HNE
  clear h_HNE
  obtain ⟨rr, h_HRR⟩ : ∃ R, lRight ⟨a, b, c, l⟩ = R := ⟨_, rfl⟩
  have HRR := hide h_HRR
  clear h_HRR
  obtain ⟨lk, h_HLK⟩ : ∃ R, lLacks ⟨a, b, c, l⟩ who price limit = R := ⟨_, rfl⟩
  have HLK := hide h_HLK
  clear h_HLK
  obtain ⟨ss, h_HSS⟩ : ∃ R, lSame ⟨a, b, c, l⟩ ⟨a', b', c', l'⟩ = R := ⟨_, rfl⟩
  have HSS := hide h_HSS
  clear h_HSS
  obtain ⟨nl, h_HNL⟩ : ∃ R, (lNew who).bal = R := ⟨_, rfl⟩
  have HNL := hide h_HNL
  clear h_HNL
  obtain ⟨NN, h_HNN⟩ : ∃ R, nl.length = R := ⟨_, rfl⟩
  have HNN := hide h_HNN
  clear h_HNN
  have r_tk : (tk != tk) = false := by simp
  have r_d : (d != d) = false := by simp
  have r_dd : (d == d) = true := by simp
  have r_rr : (rr == rr) = true := by simp
  have r_lk : (lk == lk) = true := by simp
  have r_ss : (ss == ss) = true := by simp
  clear h h2 hbig
  obtain ⟨w1, e1, hb1, hs1, X, Z⟩ := lbox2 w a b c (.slice A l.length m0) 24 a' b' c' (.slice D l'.length m9) 24
  have HE1 := hide e1
  have X := hide X
  have Z := hide Z
  clear e1
  replace HI := hide (HI.out.below hb1)
  replace HJ := hide (HJ.out.below hb1)
  replace hB := bcall hB hb1
  clear hb1
  go_enter Try.func3, Try.ntmps3
  go_wp2_with fail
  rw [HE1.out]
  (with_reducible refine (examples_any _).mono ?_)
  rintro e w2 ⟨rfl, hb2⟩
  replace X := hide (X.out.below hb2)
  replace Z := hide (Z.out.below hb2)
  replace HI := hide (HI.out.below hb2)
  replace HJ := hide (HJ.out.below hb2)
  replace hB := bcall hB hb2
  have hs2 := hb2.size
  clear hb2
  obtain ⟨X0, X1, X2, X3⟩ := X.out.all
  go_wp2_with fail
  clear X0 X1 X2 X3
  (with_reducible refine (refLedger_any a b c _ l _ HI.out).mono ?_)
  rintro e w3 ⟨rfl, hb3⟩
  replace X := hide (X.out.below hb3)
  replace Z := hide (Z.out.below hb3)
  replace HI := hide (HI.out.below hb3)
  replace HJ := hide (HJ.out.below hb3)
  replace hB := bcall hB hb3
  have hs3 := hb3.size
  clear hb3
  obtain ⟨w4, e4, hb4, hs4, R⟩ := lbox w3 (a) (b) (c) (.slice A l.length m0) 26
  have HE4 := hide e4
  have R := hide R
  clear e4
  replace X := hide (X.out.below hb4)
  replace Z := hide (Z.out.below hb4)
  replace HI := hide (HI.out.below hb4)
  replace HJ := hide (HJ.out.below hb4)
  replace hB := bcall hB hb4
  clear hb4
  go_upto_region 5 with (fail)
  rw [HE4.out]
  obtain ⟨X0, X1, X2, X3⟩ := X.out.all
  go_wp2_with fail
  clear X0 X1 X2 X3
  (with_reducible refine (Take_c a b c _ l who want _ HI.out HBG.out ta tb tc tl NT tk HTA.out HTK.out HNT.out).mono ?_)
  rintro e w5 ⟨A5, c5, rfl, ⟨p5, q5⟩, G1, hb5⟩
  replace X := hide (X.out.below hb5)
  replace Z := hide (Z.out.below hb5)
  replace R := hide (R.out.below hb5)
  replace HI := hide (HI.out.below hb5)
  replace HJ := hide (HJ.out.below hb5)
  replace hB := bcall hB hb5
  have hs5 := hb5.size
  clear hb5
  have G1 := hide G1
  obtain ⟨w6, e6, hb6, hs6, TX⟩ := lbox w5 (ta) (tb) (tc) (.slice A5 NT c5) 24
  have HE6 := hide e6
  have TX := hide TX
  clear e6
  replace X := hide (X.out.below hb6)
  replace Z := hide (Z.out.below hb6)
  replace R := hide (R.out.below hb6)
  replace HI := hide (HI.out.below hb6)
  replace HJ := hide (HJ.out.below hb6)
  replace G1 := hide (G1.out.below hb6)
  replace hB := bcall hB hb6
  clear hb6
  go_upto_region 6 with (fail)
  rw [HE6.out]
  obtain ⟨R0, R1, R2, R3⟩ := R.out.all
  go_wp2_with fail
  clear R0 R1 R2 R3
  (with_reducible refine (rTake_c a b c _ l who want _ HI.out HBG.out ta tb tc tl NT tk HTA.out HTK.out HNT.out).mono ?_)
  rintro e w7 ⟨A7, c7, rfl, ⟨p7, q7⟩, G2, hb7⟩
  replace X := hide (X.out.below hb7)
  replace Z := hide (Z.out.below hb7)
  replace R := hide (R.out.below hb7)
  replace TX := hide (TX.out.below hb7)
  replace HI := hide (HI.out.below hb7)
  replace HJ := hide (HJ.out.below hb7)
  replace G1 := hide (G1.out.below hb7)
  replace hB := bcall hB hb7
  have hs7 := hb7.size
  clear hb7
  have G2 := hide G2
  obtain ⟨w8, e8, hb8, hs8, TY⟩ := lbox w7 (ta) (tb) (tc) (.slice A7 NT c7) 26
  have HE8 := hide e8
  have TY := hide TY
  clear e8
  replace X := hide (X.out.below hb8)
  replace Z := hide (Z.out.below hb8)
  replace R := hide (R.out.below hb8)
  replace TX := hide (TX.out.below hb8)
  replace HI := hide (HI.out.below hb8)
  replace HJ := hide (HJ.out.below hb8)
  replace G1 := hide (G1.out.below hb8)
  replace G2 := hide (G2.out.below hb8)
  replace hB := bcall hB hb8
  clear hb8
  go_upto_region 7 with (fail)
  rw [HE8.out]
  obtain ⟨X0, X1, X2, X3⟩ := X.out.all
  go_wp2_with fail
  clear X0 X1 X2 X3
  (with_reducible refine (Spend_c a b c _ l who price limit _ HI.out HBG.out pa pb pc pl NP d HSP.out HM.out HNP.out).mono ?_)
  rintro e w9 ⟨A9, c9, rfl, ⟨p9, q9⟩, G3, hb9⟩
  replace X := hide (X.out.below hb9)
  replace Z := hide (Z.out.below hb9)
  replace R := hide (R.out.below hb9)
  replace TX := hide (TX.out.below hb9)
  replace TY := hide (TY.out.below hb9)
  replace HI := hide (HI.out.below hb9)
  replace HJ := hide (HJ.out.below hb9)
  replace G1 := hide (G1.out.below hb9)
  replace G2 := hide (G2.out.below hb9)
  replace hB := bcall hB hb9
  have hs9 := hb9.size
  clear hb9
  have G3 := hide G3
  obtain ⟨w10, e10, hb10, hs10, PX⟩ := lbox w9 (pa) (pb) (pc) (.slice A9 NP c9) 24
  have HE10 := hide e10
  have PX := hide PX
  clear e10
  replace X := hide (X.out.below hb10)
  replace Z := hide (Z.out.below hb10)
  replace R := hide (R.out.below hb10)
  replace TX := hide (TX.out.below hb10)
  replace TY := hide (TY.out.below hb10)
  replace HI := hide (HI.out.below hb10)
  replace HJ := hide (HJ.out.below hb10)
  replace G1 := hide (G1.out.below hb10)
  replace G2 := hide (G2.out.below hb10)
  replace G3 := hide (G3.out.below hb10)
  replace hB := bcall hB hb10
  clear hb10
  go_upto_region 8 with (fail)
  rw [HE10.out]
  obtain ⟨R0, R1, R2, R3⟩ := R.out.all
  go_wp2_with fail
  clear R0 R1 R2 R3
  (with_reducible refine (rSpend_c a b c _ l who price limit _ HI.out HBG.out pa pb pc pl NP d HSP.out HM.out HNP.out).mono ?_)
  rintro e w11 ⟨A11, c11, rfl, ⟨p11, q11⟩, G4, hb11⟩
  replace X := hide (X.out.below hb11)
  replace Z := hide (Z.out.below hb11)
  replace R := hide (R.out.below hb11)
  replace TX := hide (TX.out.below hb11)
  replace TY := hide (TY.out.below hb11)
  replace PX := hide (PX.out.below hb11)
  replace HI := hide (HI.out.below hb11)
  replace HJ := hide (HJ.out.below hb11)
  replace G1 := hide (G1.out.below hb11)
  replace G2 := hide (G2.out.below hb11)
  replace G3 := hide (G3.out.below hb11)
  replace hB := bcall hB hb11
  have hs11 := hb11.size
  clear hb11
  have G4 := hide G4
  obtain ⟨w12, e12, hb12, hs12, PY⟩ := lbox w11 (pa) (pb) (pc) (.slice A11 NP c11) 26
  have HE12 := hide e12
  have PY := hide PY
  clear e12
  replace X := hide (X.out.below hb12)
  replace Z := hide (Z.out.below hb12)
  replace R := hide (R.out.below hb12)
  replace TX := hide (TX.out.below hb12)
  replace TY := hide (TY.out.below hb12)
  replace PX := hide (PX.out.below hb12)
  replace HI := hide (HI.out.below hb12)
  replace HJ := hide (HJ.out.below hb12)
  replace G1 := hide (G1.out.below hb12)
  replace G2 := hide (G2.out.below hb12)
  replace G3 := hide (G3.out.below hb12)
  replace G4 := hide (G4.out.below hb12)
  replace hB := bcall hB hb12
  clear hb12
  go_upto_region 9 with (fail)
  rw [HE12.out]
  replace X := hide (⟨X.out.blk⟩ : Bx 24 w12.drew _ _ _ _ _)
  replace Z := hide (⟨Z.out.blk⟩ : Bx 24 w12.drew _ _ _ _ _)
  replace R := hide (⟨R.out.blk⟩ : Bx 26 w12.drew _ _ _ _ _)
  replace TX := hide (⟨TX.out.blk⟩ : Bx 24 w12.drew _ _ _ _ _)
  replace TY := hide (⟨TY.out.blk⟩ : Bx 26 w12.drew _ _ _ _ _)
  replace PX := hide (⟨PX.out.blk⟩ : Bx 24 w12.drew _ _ _ _ _)
  replace PY := hide (⟨PY.out.blk⟩ : Bx 26 w12.drew _ _ _ _ _)
  replace HI := hide (show Ints w12.drew _ _ from HI.out)
  replace HJ := hide (show Ints w12.drew _ _ from HJ.out)
  replace G1 := hide (show Ints w12.drew _ _ from G1.out)
  replace G2 := hide (show Ints w12.drew _ _ from G2.out)
  replace G3 := hide (show Ints w12.drew _ _ from G3.out)
  replace G4 := hide (show Ints w12.drew _ _ from G4.out)
  have hB := (⟨hB.os, hB.tape, hB.output, hB.size, hB.block⟩ : Below w.heap.size w w12.drew)
  refine wp_region_held_drew (S := fun w' => w'.cell? ⟨w.heap.size, 0, none⟩ = some (.int .i64 a) ∧ w'.cell? ⟨w.heap.size, 1, none⟩ = some (.int .i64 b) ∧ w'.cell? ⟨w.heap.size, 2, none⟩ = some (.int .i64 c) ∧ w'.cell? ⟨w.heap.size, 3, none⟩ = some (.slice A l.length m0) ∧ w'.cell? ⟨w.heap.size + 1, 0, none⟩ = some (.int .i64 a') ∧ w'.cell? ⟨w.heap.size + 1, 1, none⟩ = some (.int .i64 b') ∧ w'.cell? ⟨w.heap.size + 1, 2, none⟩ = some (.int .i64 c') ∧ w'.cell? ⟨w.heap.size + 1, 3, none⟩ = some (.slice D l'.length m9) ∧ w'.cell? ⟨w3.heap.size, 0, none⟩ = some (.int .i64 a) ∧ w'.cell? ⟨w3.heap.size, 1, none⟩ = some (.int .i64 b) ∧ w'.cell? ⟨w3.heap.size, 2, none⟩ = some (.int .i64 c) ∧ w'.cell? ⟨w3.heap.size, 3, none⟩ = some (.slice A l.length m0) ∧ w'.cell? ⟨w5.heap.size, 0, none⟩ = some (.int .i64 ta) ∧ w'.cell? ⟨w5.heap.size, 1, none⟩ = some (.int .i64 tb) ∧ w'.cell? ⟨w5.heap.size, 2, none⟩ = some (.int .i64 tc) ∧ w'.cell? ⟨w5.heap.size, 3, none⟩ = some (.slice A5 NT c5) ∧ w'.cell? ⟨w7.heap.size, 0, none⟩ = some (.int .i64 ta) ∧ w'.cell? ⟨w7.heap.size, 1, none⟩ = some (.int .i64 tb) ∧ w'.cell? ⟨w7.heap.size, 2, none⟩ = some (.int .i64 tc) ∧ w'.cell? ⟨w7.heap.size, 3, none⟩ = some (.slice A7 NT c7) ∧ w'.cell? ⟨w9.heap.size, 0, none⟩ = some (.int .i64 pa) ∧ w'.cell? ⟨w9.heap.size, 1, none⟩ = some (.int .i64 pb) ∧ w'.cell? ⟨w9.heap.size, 2, none⟩ = some (.int .i64 pc) ∧ w'.cell? ⟨w9.heap.size, 3, none⟩ = some (.slice A9 NP c9) ∧ w'.cell? ⟨w11.heap.size, 0, none⟩ = some (.int .i64 pa) ∧ w'.cell? ⟨w11.heap.size, 1, none⟩ = some (.int .i64 pb) ∧ w'.cell? ⟨w11.heap.size, 2, none⟩ = some (.int .i64 pc) ∧ w'.cell? ⟨w11.heap.size, 3, none⟩ = some (.slice A11 NP c11)) (by kernel_rfl) ?_ (fun hHeld => ?_)
  · exact ⟨X.out.all.1, X.out.all.2.1, X.out.all.2.2.1, X.out.all.2.2.2, Z.out.all.1, Z.out.all.2.1, Z.out.all.2.2.1, Z.out.all.2.2.2, R.out.all.1, R.out.all.2.1, R.out.all.2.2.1, R.out.all.2.2.2, TX.out.all.1, TX.out.all.2.1, TX.out.all.2.2.1, TX.out.all.2.2.2, TY.out.all.1, TY.out.all.2.1, TY.out.all.2.2.1, TY.out.all.2.2.2, PX.out.all.1, PX.out.all.2.1, PX.out.all.2.2.1, PX.out.all.2.2.2, PY.out.all.1, PY.out.all.2.1, PY.out.all.2.2.1, PY.out.all.2.2.2⟩
  refine wpAnyH_take (i := 0) (oi := { dst := some 58, op := Op.load 24 (Operand.tmp 15), type := 24, pos := "law.go:39", after := #[], guard := none }) (v := ?_) rfl (by kernel_rfl) (by kernel_rfl) (by kernel_rfl) (fun _ _ _ h => h) (Or.inl ⟨by rfl, ?_⟩) (by assumption) ?_
  rotate_left
  · intro w_ hSw; (try dsimp only at hSw); go_simp; (try with_reducible rfl)
  (try simp only [Act.put, List.setIfInBounds_toArray, List.set_cons_zero, List.set_cons_succ])
  refine wpAnyH_take (i := 2) (oi := { dst := some 60, op := Op.load 26 (Operand.tmp 17), type := 26, pos := "law.go:39", after := #[], guard := none }) (v := ?_) rfl (by kernel_rfl) (by kernel_rfl) (by kernel_rfl) (fun _ _ _ h => h) (Or.inl ⟨by rfl, ?_⟩) (by assumption) ?_
  rotate_left
  · intro w_ hSw; (try dsimp only at hSw); go_simp; (try with_reducible rfl)
  (try simp only [Act.put, List.setIfInBounds_toArray, List.set_cons_zero, List.set_cons_succ])
  refine wpAnyH_ready (rs := [1]) (by kernel_rfl) (by simp) ?_
  refine AllReadyH.cons rfl (fun K hK => ?_) AllReadyH.nil
  go_simp
  go_at_call 10
  (with_reducible refine (refLedger_any ta tb tc _ tl _ G1.out).mono ?_)
  rintro e w901_ ⟨rfl, hb_⟩
  replace X := hide (X.out.below hb_)
  replace Z := hide (Z.out.below hb_)
  replace R := hide (R.out.below hb_)
  replace TX := hide (TX.out.below hb_)
  replace TY := hide (TY.out.below hb_)
  replace PX := hide (PX.out.below hb_)
  replace PY := hide (PY.out.below hb_)
  replace HI := hide (HI.out.below hb_)
  replace HJ := hide (HJ.out.below hb_)
  replace G1 := hide (G1.out.below hb_)
  replace G2 := hide (G2.out.below hb_)
  replace G3 := hide (G3.out.below hb_)
  replace G4 := hide (G4.out.below hb_)
  have hB := bcall hB hb_
  clear hb_
  (try go_simp)
  refine hK.out _ _ ⟨X.out.all.1, X.out.all.2.1, X.out.all.2.2.1, X.out.all.2.2.2, Z.out.all.1, Z.out.all.2.1, Z.out.all.2.2.1, Z.out.all.2.2.2, R.out.all.1, R.out.all.2.1, R.out.all.2.2.1, R.out.all.2.2.2, TX.out.all.1, TX.out.all.2.1, TX.out.all.2.2.1, TX.out.all.2.2.2, TY.out.all.1, TY.out.all.2.1, TY.out.all.2.2.1, TY.out.all.2.2.2, PX.out.all.1, PX.out.all.2.1, PX.out.all.2.2.1, PX.out.all.2.2.2, PY.out.all.1, PY.out.all.2.1, PY.out.all.2.2.1, PY.out.all.2.2.2⟩ (fun hHeld => ?_)
  (try simp only [Act.put, List.setIfInBounds_toArray, List.set_cons_zero, List.set_cons_succ])
  refine wpAnyH_ready (rs := [3]) (by kernel_rfl) (by simp) ?_
  refine AllReadyH.cons rfl (fun K hK => ?_) AllReadyH.nil
  go_simp
  go_at_call 15
  (with_reducible refine (rSame_yes ta tb tc _ _ tl _ G1.out G2.out).mono ?_)
  rintro e w903_ ⟨rfl, hb_⟩
  replace X := hide (X.out.below hb_)
  replace Z := hide (Z.out.below hb_)
  replace R := hide (R.out.below hb_)
  replace TX := hide (TX.out.below hb_)
  replace TY := hide (TY.out.below hb_)
  replace PX := hide (PX.out.below hb_)
  replace PY := hide (PY.out.below hb_)
  replace HI := hide (HI.out.below hb_)
  replace HJ := hide (HJ.out.below hb_)
  replace G1 := hide (G1.out.below hb_)
  replace G2 := hide (G2.out.below hb_)
  replace G3 := hide (G3.out.below hb_)
  replace G4 := hide (G4.out.below hb_)
  have hB := bcall hB hb_
  clear hb_
  (try go_simp)
  refine hK.out _ _ ⟨X.out.all.1, X.out.all.2.1, X.out.all.2.2.1, X.out.all.2.2.2, Z.out.all.1, Z.out.all.2.1, Z.out.all.2.2.1, Z.out.all.2.2.2, R.out.all.1, R.out.all.2.1, R.out.all.2.2.1, R.out.all.2.2.2, TX.out.all.1, TX.out.all.2.1, TX.out.all.2.2.1, TX.out.all.2.2.2, TY.out.all.1, TY.out.all.2.1, TY.out.all.2.2.1, TY.out.all.2.2.2, PX.out.all.1, PX.out.all.2.1, PX.out.all.2.2.1, PX.out.all.2.2.2, PY.out.all.1, PY.out.all.2.1, PY.out.all.2.2.1, PY.out.all.2.2.2⟩ (fun hHeld => ?_)
  (try simp only [Act.put, List.setIfInBounds_toArray, List.set_cons_zero, List.set_cons_succ])
  refine wpAnyH_take (i := 4) (oi := { dst := some 62, op := Op.unOp UnOp.not 4 (Operand.tmp 61), type := 4, pos := "law.go:39", after := #[{ on := 3, ground := Ground.data }], guard := none }) (v := ?_) rfl (by kernel_rfl) (by kernel_rfl) (by kernel_rfl) (fun _ _ _ h => h) (Or.inl ⟨by rfl, ?_⟩) (by assumption) ?_
  rotate_left
  · intro w_ hSw; (try dsimp only at hSw); go_simp; (try with_reducible rfl)
  (try simp only [Act.put, List.setIfInBounds_toArray, List.set_cons_zero, List.set_cons_succ])
  refine wpAnyH_take (i := 5) (oi := { dst := some 63, op := Op.move (Operand.tmp 62), type := 4, pos := "law.go:39", after := #[{ on := 4, ground := Ground.data }, { on := 3, ground := Ground.chain }], guard := none }) (v := ?_) rfl (by kernel_rfl) (by kernel_rfl) (by kernel_rfl) (fun _ _ _ h => h) (Or.inl ⟨by rfl, ?_⟩) (by assumption) ?_
  rotate_left
  · intro w_ hSw; (try dsimp only at hSw); go_simp; (try with_reducible rfl)
  (try simp only [Act.put, List.setIfInBounds_toArray, List.set_cons_zero, List.set_cons_succ])
  refine wpAnyH_take (i := 6) (oi := { dst := some 64, op := Op.move (Operand.tmp 16), type := 2, pos := "law.go:39", after := #[{ on := 5, ground := Ground.guard }], guard := some (5, false) }) (v := ?_) rfl (by kernel_rfl) (by kernel_rfl) (by kernel_rfl) (fun _ _ _ h => h) (Or.inl ⟨by rfl, ?_⟩) (by assumption) ?_
  rotate_left
  · intro w_ hSw; (try dsimp only at hSw); go_simp; (try with_reducible rfl)
  (try simp only [Act.put, List.setIfInBounds_toArray, List.set_cons_zero, List.set_cons_succ])
  refine wpAnyH_take (i := 7) (oi := { dst := some 65, op := Op.move (Operand.tmp 18), type := 2, pos := "law.go:39", after := #[{ on := 5, ground := Ground.guard }], guard := some (5, false) }) (v := ?_) rfl (by kernel_rfl) (by kernel_rfl) (by kernel_rfl) (fun _ _ _ h => h) (Or.inl ⟨by rfl, ?_⟩) (by assumption) ?_
  rotate_left
  · intro w_ hSw; (try dsimp only at hSw); go_simp; (try with_reducible rfl)
  (try simp only [Act.put, List.setIfInBounds_toArray, List.set_cons_zero, List.set_cons_succ])
  refine wpAnyH_take (i := 8) (oi := { dst := some 66, op := Op.binOp BinOp.neq 2 (Operand.tmp 64) (Operand.tmp 65) 2, type := 4, pos := "law.go:39", after := #[{ on := 6, ground := Ground.data }, { on := 7, ground := Ground.data }, { on := 5, ground := Ground.guard }], guard := some (5, false) }) (v := ?_) rfl (by kernel_rfl) (by kernel_rfl) (by kernel_rfl) (fun _ _ _ h => h) (Or.inl ⟨by rfl, ?_⟩) (by assumption) ?_
  rotate_left
  · intro w_ hSw; (try dsimp only at hSw); go_simp; (try with_reducible rfl)
  (try simp only [Act.put, List.setIfInBounds_toArray, List.set_cons_zero, List.set_cons_succ])
  refine wpAnyH_take (i := 9) (oi := { dst := some 67, op := Op.pick (Operand.tmp 63) (Operand.const (Value.bool true)) (Operand.tmp 66), type := 4, pos := "law.go:39", after := #[{ on := 5, ground := Ground.data }, { on := 8, ground := Ground.data }], guard := none }) (v := ?_) rfl (by kernel_rfl) (by kernel_rfl) (by kernel_rfl) (fun _ _ _ h => h) (Or.inl ⟨by rfl, ?_⟩) (by assumption) ?_
  rotate_left
  · intro w_ hSw; (try dsimp only at hSw); go_simp; (try with_reducible rfl)
  (try simp only [Act.put, List.setIfInBounds_toArray, List.set_cons_zero, List.set_cons_succ])
  refine wpAnyH_take (i := 10) (oi := { dst := some 68, op := Op.move (Operand.tmp 67), type := 4, pos := "law.go:39", after := #[{ on := 9, ground := Ground.data }, { on := 5, ground := Ground.chain }], guard := none }) (v := ?_) rfl (by kernel_rfl) (by kernel_rfl) (by kernel_rfl) (fun _ _ _ h => h) (Or.inl ⟨by rfl, ?_⟩) (by assumption) ?_
  rotate_left
  · intro w_ hSw; (try dsimp only at hSw); go_simp; (try with_reducible rfl)
  (try simp only [Act.put, List.setIfInBounds_toArray, List.set_cons_zero, List.set_cons_succ])
  refine wpAnyH_take (i := 11) (oi := { dst := some 69, op := Op.load 24 (Operand.tmp 19), type := 24, pos := "law.go:39", after := #[{ on := 10, ground := Ground.guard }], guard := some (10, false) }) (v := ?_) rfl (by kernel_rfl) (by kernel_rfl) (by kernel_rfl) (fun _ _ _ h => h) (Or.inl ⟨by rfl, ?_⟩) (by assumption) ?_
  rotate_left
  · intro w_ hSw; (try dsimp only at hSw); go_simp; (try with_reducible rfl)
  (try simp only [Act.put, List.setIfInBounds_toArray, List.set_cons_zero, List.set_cons_succ])
  refine wpAnyH_take (i := 13) (oi := { dst := some 71, op := Op.load 26 (Operand.tmp 21), type := 26, pos := "law.go:39", after := #[{ on := 10, ground := Ground.guard }], guard := some (10, false) }) (v := ?_) rfl (by kernel_rfl) (by kernel_rfl) (by kernel_rfl) (fun _ _ _ h => h) (Or.inl ⟨by rfl, ?_⟩) (by assumption) ?_
  rotate_left
  · intro w_ hSw; (try dsimp only at hSw); go_simp; (try with_reducible rfl)
  (try simp only [Act.put, List.setIfInBounds_toArray, List.set_cons_zero, List.set_cons_succ])
  refine wpAnyH_ready (rs := [12]) (by kernel_rfl) (by simp) ?_
  refine AllReadyH.cons rfl (fun K hK => ?_) AllReadyH.nil
  go_simp
  go_at_call 10
  (with_reducible refine (refLedger_any pa pb pc _ pl _ G3.out).mono ?_)
  rintro e w912_ ⟨rfl, hb_⟩
  replace X := hide (X.out.below hb_)
  replace Z := hide (Z.out.below hb_)
  replace R := hide (R.out.below hb_)
  replace TX := hide (TX.out.below hb_)
  replace TY := hide (TY.out.below hb_)
  replace PX := hide (PX.out.below hb_)
  replace PY := hide (PY.out.below hb_)
  replace HI := hide (HI.out.below hb_)
  replace HJ := hide (HJ.out.below hb_)
  replace G1 := hide (G1.out.below hb_)
  replace G2 := hide (G2.out.below hb_)
  replace G3 := hide (G3.out.below hb_)
  replace G4 := hide (G4.out.below hb_)
  have hB := bcall hB hb_
  clear hb_
  (try go_simp)
  refine hK.out _ _ ⟨X.out.all.1, X.out.all.2.1, X.out.all.2.2.1, X.out.all.2.2.2, Z.out.all.1, Z.out.all.2.1, Z.out.all.2.2.1, Z.out.all.2.2.2, R.out.all.1, R.out.all.2.1, R.out.all.2.2.1, R.out.all.2.2.2, TX.out.all.1, TX.out.all.2.1, TX.out.all.2.2.1, TX.out.all.2.2.2, TY.out.all.1, TY.out.all.2.1, TY.out.all.2.2.1, TY.out.all.2.2.2, PX.out.all.1, PX.out.all.2.1, PX.out.all.2.2.1, PX.out.all.2.2.2, PY.out.all.1, PY.out.all.2.1, PY.out.all.2.2.1, PY.out.all.2.2.2⟩ (fun hHeld => ?_)
  (try simp only [Act.put, List.setIfInBounds_toArray, List.set_cons_zero, List.set_cons_succ])
  refine wpAnyH_ready (rs := [14]) (by kernel_rfl) (by simp) ?_
  refine AllReadyH.cons rfl (fun K hK => ?_) AllReadyH.nil
  go_simp
  go_at_call 15
  (with_reducible refine (rSame_yes pa pb pc _ _ pl _ G3.out G4.out).mono ?_)
  rintro e w914_ ⟨rfl, hb_⟩
  replace X := hide (X.out.below hb_)
  replace Z := hide (Z.out.below hb_)
  replace R := hide (R.out.below hb_)
  replace TX := hide (TX.out.below hb_)
  replace TY := hide (TY.out.below hb_)
  replace PX := hide (PX.out.below hb_)
  replace PY := hide (PY.out.below hb_)
  replace HI := hide (HI.out.below hb_)
  replace HJ := hide (HJ.out.below hb_)
  replace G1 := hide (G1.out.below hb_)
  replace G2 := hide (G2.out.below hb_)
  replace G3 := hide (G3.out.below hb_)
  replace G4 := hide (G4.out.below hb_)
  have hB := bcall hB hb_
  clear hb_
  (try go_simp)
  refine hK.out _ _ ⟨X.out.all.1, X.out.all.2.1, X.out.all.2.2.1, X.out.all.2.2.2, Z.out.all.1, Z.out.all.2.1, Z.out.all.2.2.1, Z.out.all.2.2.2, R.out.all.1, R.out.all.2.1, R.out.all.2.2.1, R.out.all.2.2.2, TX.out.all.1, TX.out.all.2.1, TX.out.all.2.2.1, TX.out.all.2.2.2, TY.out.all.1, TY.out.all.2.1, TY.out.all.2.2.1, TY.out.all.2.2.2, PX.out.all.1, PX.out.all.2.1, PX.out.all.2.2.1, PX.out.all.2.2.2, PY.out.all.1, PY.out.all.2.1, PY.out.all.2.2.1, PY.out.all.2.2.2⟩ (fun hHeld => ?_)
  (try simp only [Act.put, List.setIfInBounds_toArray, List.set_cons_zero, List.set_cons_succ])
  refine wpAnyH_take (i := 15) (oi := { dst := some 73, op := Op.unOp UnOp.not 4 (Operand.tmp 72), type := 4, pos := "law.go:39", after := #[{ on := 14, ground := Ground.data }, { on := 10, ground := Ground.guard }], guard := some (10, false) }) (v := ?_) rfl (by kernel_rfl) (by kernel_rfl) (by kernel_rfl) (fun _ _ _ h => h) (Or.inl ⟨by rfl, ?_⟩) (by assumption) ?_
  rotate_left
  · intro w_ hSw; (try dsimp only at hSw); go_simp; (try with_reducible rfl)
  (try simp only [Act.put, List.setIfInBounds_toArray, List.set_cons_zero, List.set_cons_succ])
  refine wpAnyH_take (i := 16) (oi := { dst := some 74, op := Op.pick (Operand.tmp 68) (Operand.const (Value.bool true)) (Operand.tmp 73), type := 4, pos := "law.go:39", after := #[{ on := 10, ground := Ground.data }, { on := 15, ground := Ground.data }], guard := none }) (v := ?_) rfl (by kernel_rfl) (by kernel_rfl) (by kernel_rfl) (fun _ _ _ h => h) (Or.inl ⟨by rfl, ?_⟩) (by assumption) ?_
  rotate_left
  · intro w_ hSw; (try dsimp only at hSw); go_simp; (try with_reducible rfl)
  (try simp only [Act.put, List.setIfInBounds_toArray, List.set_cons_zero, List.set_cons_succ])
  refine wpAnyH_take (i := 17) (oi := { dst := some 75, op := Op.move (Operand.tmp 74), type := 4, pos := "law.go:39", after := #[{ on := 16, ground := Ground.data }, { on := 14, ground := Ground.chain }], guard := none }) (v := ?_) rfl (by kernel_rfl) (by kernel_rfl) (by kernel_rfl) (fun _ _ _ h => h) (Or.inl ⟨by rfl, ?_⟩) (by assumption) ?_
  rotate_left
  · intro w_ hSw; (try dsimp only at hSw); go_simp; (try with_reducible rfl)
  (try simp only [Act.put, List.setIfInBounds_toArray, List.set_cons_zero, List.set_cons_succ])
  refine wpAnyH_take (i := 18) (oi := { dst := some 76, op := Op.move (Operand.tmp 20), type := 4, pos := "law.go:39", after := #[{ on := 17, ground := Ground.guard }], guard := some (17, false) }) (v := ?_) rfl (by kernel_rfl) (by kernel_rfl) (by kernel_rfl) (fun _ _ _ h => h) (Or.inl ⟨by rfl, ?_⟩) (by assumption) ?_
  rotate_left
  · intro w_ hSw; (try dsimp only at hSw); go_simp; (try with_reducible rfl)
  (try simp only [Act.put, List.setIfInBounds_toArray, List.set_cons_zero, List.set_cons_succ])
  refine wpAnyH_take (i := 19) (oi := { dst := some 77, op := Op.move (Operand.tmp 22), type := 4, pos := "law.go:39", after := #[{ on := 17, ground := Ground.guard }], guard := some (17, false) }) (v := ?_) rfl (by kernel_rfl) (by kernel_rfl) (by kernel_rfl) (fun _ _ _ h => h) (Or.inl ⟨by rfl, ?_⟩) (by assumption) ?_
  rotate_left
  · intro w_ hSw; (try dsimp only at hSw); go_simp; (try with_reducible rfl)
  (try simp only [Act.put, List.setIfInBounds_toArray, List.set_cons_zero, List.set_cons_succ])
  refine wpAnyH_take (i := 20) (oi := { dst := some 78, op := Op.binOp BinOp.neq 4 (Operand.tmp 76) (Operand.tmp 77) 4, type := 4, pos := "law.go:39", after := #[{ on := 18, ground := Ground.data }, { on := 19, ground := Ground.data }, { on := 17, ground := Ground.guard }], guard := some (17, false) }) (v := ?_) rfl (by kernel_rfl) (by kernel_rfl) (by kernel_rfl) (fun _ _ _ h => h) (Or.inl ⟨by rfl, ?_⟩) (by assumption) ?_
  rotate_left
  · intro w_ hSw; (try dsimp only at hSw); go_simp; (try with_reducible rfl)
  (try simp only [Act.put, List.setIfInBounds_toArray, List.set_cons_zero, List.set_cons_succ])
  refine wpAnyH_take (i := 21) (oi := { dst := some 79, op := Op.pick (Operand.tmp 75) (Operand.const (Value.bool true)) (Operand.tmp 78), type := 4, pos := "law.go:39", after := #[{ on := 17, ground := Ground.data }, { on := 20, ground := Ground.data }], guard := none }) (v := ?_) rfl (by kernel_rfl) (by kernel_rfl) (by kernel_rfl) (fun _ _ _ h => h) (Or.inl ⟨by rfl, ?_⟩) (by assumption) ?_
  rotate_left
  · intro w_ hSw; (try dsimp only at hSw); go_simp; (try with_reducible rfl)
  (try simp only [Act.put, List.setIfInBounds_toArray, List.set_cons_zero, List.set_cons_succ])
  refine wpAnyH_take (i := 22) (oi := { dst := some 80, op := Op.move (Operand.tmp 79), type := 4, pos := "law.go:39", after := #[{ on := 21, ground := Ground.data }, { on := 17, ground := Ground.chain }], guard := none }) (v := ?_) rfl (by kernel_rfl) (by kernel_rfl) (by kernel_rfl) (fun _ _ _ h => h) (Or.inl ⟨by rfl, ?_⟩) (by assumption) ?_
  rotate_left
  · intro w_ hSw; (try dsimp only at hSw); go_simp; (try with_reducible rfl)
  (try simp only [Act.put, List.setIfInBounds_toArray, List.set_cons_zero, List.set_cons_succ])
  refine wpAnyH_take (i := 23) (oi := { dst := some 81, op := Op.load 24 (Operand.tmp 6), type := 24, pos := "law.go:39", after := #[{ on := 22, ground := Ground.guard }], guard := some (22, false) }) (v := ?_) rfl (by kernel_rfl) (by kernel_rfl) (by kernel_rfl) (fun _ _ _ h => h) (Or.inl ⟨by rfl, ?_⟩) (by assumption) ?_
  rotate_left
  · intro w_ hSw; (try dsimp only at hSw); go_simp; (try with_reducible rfl)
  (try simp only [Act.put, List.setIfInBounds_toArray, List.set_cons_zero, List.set_cons_succ])
  refine wpAnyH_take (i := 24) (oi := { dst := some 82, op := Op.move (Operand.tmp 2), type := 3, pos := "law.go:39", after := #[{ on := 22, ground := Ground.guard }], guard := some (22, false) }) (v := ?_) rfl (by kernel_rfl) (by kernel_rfl) (by kernel_rfl) (fun _ _ _ h => h) (Or.inl ⟨by rfl, ?_⟩) (by assumption) ?_
  rotate_left
  · intro w_ hSw; (try dsimp only at hSw); go_simp; (try with_reducible rfl)
  (try simp only [Act.put, List.setIfInBounds_toArray, List.set_cons_zero, List.set_cons_succ])
  refine wpAnyH_take (i := 27) (oi := { dst := some 85, op := Op.load 26 (Operand.tmp 14), type := 26, pos := "law.go:39", after := #[{ on := 22, ground := Ground.guard }], guard := some (22, false) }) (v := ?_) rfl (by kernel_rfl) (by kernel_rfl) (by kernel_rfl) (fun _ _ _ h => h) (Or.inl ⟨by rfl, ?_⟩) (by assumption) ?_
  rotate_left
  · intro w_ hSw; (try dsimp only at hSw); go_simp; (try with_reducible rfl)
  (try simp only [Act.put, List.setIfInBounds_toArray, List.set_cons_zero, List.set_cons_succ])
  refine wpAnyH_take (i := 28) (oi := { dst := some 86, op := Op.move (Operand.tmp 2), type := 3, pos := "law.go:39", after := #[{ on := 22, ground := Ground.guard }], guard := some (22, false) }) (v := ?_) rfl (by kernel_rfl) (by kernel_rfl) (by kernel_rfl) (fun _ _ _ h => h) (Or.inl ⟨by rfl, ?_⟩) (by assumption) ?_
  rotate_left
  · intro w_ hSw; (try dsimp only at hSw); go_simp; (try with_reducible rfl)
  (try simp only [Act.put, List.setIfInBounds_toArray, List.set_cons_zero, List.set_cons_succ])
  refine wpAnyH_ready (rs := [25]) (by kernel_rfl) (by simp) ?_
  refine AllReadyH.cons rfl (fun K hK => ?_) AllReadyH.nil
  go_simp
  go_at_call 16
  (with_reducible refine (Earn_c a b c _ l who _ HI.out HBG.out ea eb ec el NE HEA.out HNE.out).mono ?_)
  rintro e w925_ ⟨A925_, c925_, rfl, ⟨p925_, q925_⟩, E1, hb_⟩
  have E1 := hide E1
  replace X := hide (X.out.below hb_)
  replace Z := hide (Z.out.below hb_)
  replace R := hide (R.out.below hb_)
  replace TX := hide (TX.out.below hb_)
  replace TY := hide (TY.out.below hb_)
  replace PX := hide (PX.out.below hb_)
  replace PY := hide (PY.out.below hb_)
  replace HI := hide (HI.out.below hb_)
  replace HJ := hide (HJ.out.below hb_)
  replace G1 := hide (G1.out.below hb_)
  replace G2 := hide (G2.out.below hb_)
  replace G3 := hide (G3.out.below hb_)
  replace G4 := hide (G4.out.below hb_)
  have hB := bcall hB hb_
  clear hb_
  (try go_simp)
  refine hK.out _ _ ⟨X.out.all.1, X.out.all.2.1, X.out.all.2.2.1, X.out.all.2.2.2, Z.out.all.1, Z.out.all.2.1, Z.out.all.2.2.1, Z.out.all.2.2.2, R.out.all.1, R.out.all.2.1, R.out.all.2.2.1, R.out.all.2.2.2, TX.out.all.1, TX.out.all.2.1, TX.out.all.2.2.1, TX.out.all.2.2.2, TY.out.all.1, TY.out.all.2.1, TY.out.all.2.2.1, TY.out.all.2.2.2, PX.out.all.1, PX.out.all.2.1, PX.out.all.2.2.1, PX.out.all.2.2.2, PY.out.all.1, PY.out.all.2.1, PY.out.all.2.2.1, PY.out.all.2.2.2⟩ (fun hHeld => ?_)
  (try simp only [Act.put, List.setIfInBounds_toArray, List.set_cons_zero, List.set_cons_succ])
  refine wpAnyH_ready (rs := [26]) (by kernel_rfl) (by simp) ?_
  refine AllReadyH.cons rfl (fun K hK => ?_) AllReadyH.nil
  go_simp
  go_at_call 10
  (with_reducible refine (refLedger_any ea eb ec _ el _ E1.out).mono ?_)
  rintro e w926_ ⟨rfl, hb_⟩
  replace X := hide (X.out.below hb_)
  replace Z := hide (Z.out.below hb_)
  replace R := hide (R.out.below hb_)
  replace TX := hide (TX.out.below hb_)
  replace TY := hide (TY.out.below hb_)
  replace PX := hide (PX.out.below hb_)
  replace PY := hide (PY.out.below hb_)
  replace HI := hide (HI.out.below hb_)
  replace HJ := hide (HJ.out.below hb_)
  replace G1 := hide (G1.out.below hb_)
  replace G2 := hide (G2.out.below hb_)
  replace G3 := hide (G3.out.below hb_)
  replace G4 := hide (G4.out.below hb_)
  replace E1 := hide (E1.out.below hb_)
  have hB := bcall hB hb_
  clear hb_
  (try go_simp)
  refine hK.out _ _ ⟨X.out.all.1, X.out.all.2.1, X.out.all.2.2.1, X.out.all.2.2.2, Z.out.all.1, Z.out.all.2.1, Z.out.all.2.2.1, Z.out.all.2.2.2, R.out.all.1, R.out.all.2.1, R.out.all.2.2.1, R.out.all.2.2.2, TX.out.all.1, TX.out.all.2.1, TX.out.all.2.2.1, TX.out.all.2.2.2, TY.out.all.1, TY.out.all.2.1, TY.out.all.2.2.1, TY.out.all.2.2.2, PX.out.all.1, PX.out.all.2.1, PX.out.all.2.2.1, PX.out.all.2.2.2, PY.out.all.1, PY.out.all.2.1, PY.out.all.2.2.1, PY.out.all.2.2.2⟩ (fun hHeld => ?_)
  (try simp only [Act.put, List.setIfInBounds_toArray, List.set_cons_zero, List.set_cons_succ])
  refine wpAnyH_ready (rs := [29]) (by kernel_rfl) (by simp) ?_
  refine AllReadyH.cons rfl (fun K hK => ?_) AllReadyH.nil
  go_simp
  go_at_call 17
  (with_reducible refine (rEarn_c a b c _ l who _ HI.out HBG.out ea eb ec el NE HEA.out HNE.out).mono ?_)
  rintro e w929_ ⟨A929_, c929_, rfl, ⟨p929_, q929_⟩, E2, hb_⟩
  have E2 := hide E2
  replace X := hide (X.out.below hb_)
  replace Z := hide (Z.out.below hb_)
  replace R := hide (R.out.below hb_)
  replace TX := hide (TX.out.below hb_)
  replace TY := hide (TY.out.below hb_)
  replace PX := hide (PX.out.below hb_)
  replace PY := hide (PY.out.below hb_)
  replace HI := hide (HI.out.below hb_)
  replace HJ := hide (HJ.out.below hb_)
  replace G1 := hide (G1.out.below hb_)
  replace G2 := hide (G2.out.below hb_)
  replace G3 := hide (G3.out.below hb_)
  replace G4 := hide (G4.out.below hb_)
  replace E1 := hide (E1.out.below hb_)
  have hB := bcall hB hb_
  clear hb_
  (try go_simp)
  refine hK.out _ _ ⟨X.out.all.1, X.out.all.2.1, X.out.all.2.2.1, X.out.all.2.2.2, Z.out.all.1, Z.out.all.2.1, Z.out.all.2.2.1, Z.out.all.2.2.2, R.out.all.1, R.out.all.2.1, R.out.all.2.2.1, R.out.all.2.2.2, TX.out.all.1, TX.out.all.2.1, TX.out.all.2.2.1, TX.out.all.2.2.2, TY.out.all.1, TY.out.all.2.1, TY.out.all.2.2.1, TY.out.all.2.2.2, PX.out.all.1, PX.out.all.2.1, PX.out.all.2.2.1, PX.out.all.2.2.2, PY.out.all.1, PY.out.all.2.1, PY.out.all.2.2.1, PY.out.all.2.2.2⟩ (fun hHeld => ?_)
  (try simp only [Act.put, List.setIfInBounds_toArray, List.set_cons_zero, List.set_cons_succ])
  refine wpAnyH_ready (rs := [30]) (by kernel_rfl) (by simp) ?_
  refine AllReadyH.cons rfl (fun K hK => ?_) AllReadyH.nil
  go_simp
  go_at_call 15
  (with_reducible refine (rSame_yes ea eb ec _ _ el _ E1.out E2.out).mono ?_)
  rintro e w930_ ⟨rfl, hb_⟩
  replace X := hide (X.out.below hb_)
  replace Z := hide (Z.out.below hb_)
  replace R := hide (R.out.below hb_)
  replace TX := hide (TX.out.below hb_)
  replace TY := hide (TY.out.below hb_)
  replace PX := hide (PX.out.below hb_)
  replace PY := hide (PY.out.below hb_)
  replace HI := hide (HI.out.below hb_)
  replace HJ := hide (HJ.out.below hb_)
  replace G1 := hide (G1.out.below hb_)
  replace G2 := hide (G2.out.below hb_)
  replace G3 := hide (G3.out.below hb_)
  replace G4 := hide (G4.out.below hb_)
  replace E1 := hide (E1.out.below hb_)
  replace E2 := hide (E2.out.below hb_)
  have hB := bcall hB hb_
  clear hb_
  (try go_simp)
  refine hK.out _ _ ⟨X.out.all.1, X.out.all.2.1, X.out.all.2.2.1, X.out.all.2.2.2, Z.out.all.1, Z.out.all.2.1, Z.out.all.2.2.1, Z.out.all.2.2.2, R.out.all.1, R.out.all.2.1, R.out.all.2.2.1, R.out.all.2.2.2, TX.out.all.1, TX.out.all.2.1, TX.out.all.2.2.1, TX.out.all.2.2.2, TY.out.all.1, TY.out.all.2.1, TY.out.all.2.2.1, TY.out.all.2.2.2, PX.out.all.1, PX.out.all.2.1, PX.out.all.2.2.1, PX.out.all.2.2.2, PY.out.all.1, PY.out.all.2.1, PY.out.all.2.2.1, PY.out.all.2.2.2⟩ (fun hHeld => ?_)
  (try simp only [Act.put, List.setIfInBounds_toArray, List.set_cons_zero, List.set_cons_succ])
  refine wpAnyH_take (i := 31) (oi := { dst := some 89, op := Op.unOp UnOp.not 4 (Operand.tmp 88), type := 4, pos := "law.go:39", after := #[{ on := 30, ground := Ground.data }, { on := 22, ground := Ground.guard }], guard := some (22, false) }) (v := ?_) rfl (by kernel_rfl) (by kernel_rfl) (by kernel_rfl) (fun _ _ _ h => h) (Or.inl ⟨by rfl, ?_⟩) (by assumption) ?_
  rotate_left
  · intro w_ hSw; (try dsimp only at hSw); go_simp; (try with_reducible rfl)
  (try simp only [Act.put, List.setIfInBounds_toArray, List.set_cons_zero, List.set_cons_succ])
  refine wpAnyH_take (i := 32) (oi := { dst := some 90, op := Op.pick (Operand.tmp 80) (Operand.const (Value.bool true)) (Operand.tmp 89), type := 4, pos := "law.go:39", after := #[{ on := 22, ground := Ground.data }, { on := 31, ground := Ground.data }], guard := none }) (v := ?_) rfl (by kernel_rfl) (by kernel_rfl) (by kernel_rfl) (fun _ _ _ h => h) (Or.inl ⟨by rfl, ?_⟩) (by assumption) ?_
  rotate_left
  · intro w_ hSw; (try dsimp only at hSw); go_simp; (try with_reducible rfl)
  (try simp only [Act.put, List.setIfInBounds_toArray, List.set_cons_zero, List.set_cons_succ])
  refine wpAnyH_done (by kernel_rfl) ?_ _
  go_upto_region 11 with (fail)
  clear TX TY PX PY G1 G2 G3 G4
  replace X := hide (⟨X.out.blk⟩ : Bx 24 w930_.drew _ _ _ _ _)
  replace Z := hide (⟨Z.out.blk⟩ : Bx 24 w930_.drew _ _ _ _ _)
  replace R := hide (⟨R.out.blk⟩ : Bx 26 w930_.drew _ _ _ _ _)
  replace HI := hide (show Ints w930_.drew _ _ from HI.out)
  replace HJ := hide (show Ints w930_.drew _ _ from HJ.out)
  have hB := (⟨hB.os, hB.tape, hB.output, hB.size, hB.block⟩ : Below w.heap.size w w930_.drew)
  refine wp_region_held_drew (S := fun w' => w'.cell? ⟨w.heap.size, 0, none⟩ = some (.int .i64 a) ∧ w'.cell? ⟨w.heap.size, 1, none⟩ = some (.int .i64 b) ∧ w'.cell? ⟨w.heap.size, 2, none⟩ = some (.int .i64 c) ∧ w'.cell? ⟨w.heap.size, 3, none⟩ = some (.slice A l.length m0) ∧ w'.cell? ⟨w.heap.size + 1, 0, none⟩ = some (.int .i64 a') ∧ w'.cell? ⟨w.heap.size + 1, 1, none⟩ = some (.int .i64 b') ∧ w'.cell? ⟨w.heap.size + 1, 2, none⟩ = some (.int .i64 c') ∧ w'.cell? ⟨w.heap.size + 1, 3, none⟩ = some (.slice D l'.length m9) ∧ w'.cell? ⟨w3.heap.size, 0, none⟩ = some (.int .i64 a) ∧ w'.cell? ⟨w3.heap.size, 1, none⟩ = some (.int .i64 b) ∧ w'.cell? ⟨w3.heap.size, 2, none⟩ = some (.int .i64 c) ∧ w'.cell? ⟨w3.heap.size, 3, none⟩ = some (.slice A l.length m0)) (by kernel_rfl) ?_ (fun hHeld => ?_)
  · exact ⟨X.out.all.1, X.out.all.2.1, X.out.all.2.2.1, X.out.all.2.2.2, Z.out.all.1, Z.out.all.2.1, Z.out.all.2.2.1, Z.out.all.2.2.2, R.out.all.1, R.out.all.2.1, R.out.all.2.2.1, R.out.all.2.2.2⟩
  refine wpAnyH_take (i := 0) (oi := { dst := some 91, op := Op.move (Operand.tmp 13), type := 4, pos := "law.go:42", after := #[], guard := none }) (v := ?_) rfl (by kernel_rfl) (by kernel_rfl) (by kernel_rfl) (fun _ _ _ h => h) (Or.inl ⟨by rfl, ?_⟩) (by assumption) ?_
  rotate_left
  · intro w_ hSw; (try dsimp only at hSw); go_simp; (try with_reducible rfl)
  (try simp only [Act.put, List.setIfInBounds_toArray, List.set_cons_zero, List.set_cons_succ])
  refine wpAnyH_take (i := 1) (oi := { dst := some 92, op := Op.move (Operand.tmp 91), type := 4, pos := "law.go:42", after := #[{ on := 0, ground := Ground.data }], guard := none }) (v := ?_) rfl (by kernel_rfl) (by kernel_rfl) (by kernel_rfl) (fun _ _ _ h => h) (Or.inl ⟨by rfl, ?_⟩) (by assumption) ?_
  rotate_left
  · intro w_ hSw; (try dsimp only at hSw); go_simp; (try with_reducible rfl)
  (try simp only [Act.put, List.setIfInBounds_toArray, List.set_cons_zero, List.set_cons_succ])
  refine wpAnyH_take (i := 2) (oi := { dst := some 93, op := Op.load 24 (Operand.tmp 6), type := 24, pos := "law.go:42", after := #[{ on := 1, ground := Ground.guard }], guard := some (1, true) }) (v := ?_) rfl (by kernel_rfl) (by kernel_rfl) (by kernel_rfl) (fun _ _ _ h => h) (Or.inl ⟨by rfl, ?_⟩) (by assumption) ?_
  rotate_left
  · intro w_ hSw; (try dsimp only at hSw); go_simp; (try with_reducible rfl)
  (try simp only [Act.put, List.setIfInBounds_toArray, List.set_cons_zero, List.set_cons_succ])
  refine wpAnyH_take (i := 4) (oi := { dst := some 95, op := Op.load 26 (Operand.tmp 14), type := 26, pos := "law.go:42", after := #[{ on := 1, ground := Ground.guard }], guard := some (1, true) }) (v := ?_) rfl (by kernel_rfl) (by kernel_rfl) (by kernel_rfl) (fun _ _ _ h => h) (Or.inl ⟨by rfl, ?_⟩) (by assumption) ?_
  rotate_left
  · intro w_ hSw; (try dsimp only at hSw); go_simp; (try with_reducible rfl)
  (try simp only [Act.put, List.setIfInBounds_toArray, List.set_cons_zero, List.set_cons_succ])
  refine wpAnyH_ready (rs := [3]) (by kernel_rfl) (by simp) ?_
  refine AllReadyH.cons rfl (fun K hK => ?_) AllReadyH.nil
  go_simp
  go_at_call 18
  (with_reducible refine (Right_c a b c _ l _ HI.out rr HRR.out).mono ?_)
  rintro e w1103_ ⟨rfl, hb_⟩
  replace X := hide (X.out.below hb_)
  replace Z := hide (Z.out.below hb_)
  replace R := hide (R.out.below hb_)
  replace HI := hide (HI.out.below hb_)
  replace HJ := hide (HJ.out.below hb_)
  have hB := bcall hB hb_
  clear hb_
  (try go_simp)
  refine hK.out _ _ ⟨X.out.all.1, X.out.all.2.1, X.out.all.2.2.1, X.out.all.2.2.2, Z.out.all.1, Z.out.all.2.1, Z.out.all.2.2.1, Z.out.all.2.2.2, R.out.all.1, R.out.all.2.1, R.out.all.2.2.1, R.out.all.2.2.2⟩ (fun hHeld => ?_)
  (try simp only [Act.put, List.setIfInBounds_toArray, List.set_cons_zero, List.set_cons_succ])
  refine wpAnyH_ready (rs := [5]) (by kernel_rfl) (by simp) ?_
  refine AllReadyH.cons rfl (fun K hK => ?_) AllReadyH.nil
  go_simp
  go_at_call 19
  (with_reducible refine (rRight_any a b c _ l _ HI.out).mono ?_)
  rintro e w1105_ ⟨rfl, hb_⟩
  replace X := hide (X.out.below hb_)
  replace Z := hide (Z.out.below hb_)
  replace R := hide (R.out.below hb_)
  replace HI := hide (HI.out.below hb_)
  replace HJ := hide (HJ.out.below hb_)
  have hB := bcall hB hb_
  clear hb_
  rw [HRR.out]
  (try go_simp)
  refine hK.out _ _ ⟨X.out.all.1, X.out.all.2.1, X.out.all.2.2.1, X.out.all.2.2.2, Z.out.all.1, Z.out.all.2.1, Z.out.all.2.2.1, Z.out.all.2.2.2, R.out.all.1, R.out.all.2.1, R.out.all.2.2.1, R.out.all.2.2.2⟩ (fun hHeld => ?_)
  (try simp only [Act.put, List.setIfInBounds_toArray, List.set_cons_zero, List.set_cons_succ])
  refine wpAnyH_take (i := 6) (oi := { dst := some 97, op := Op.binOp BinOp.eql 4 (Operand.tmp 94) (Operand.tmp 96) 4, type := 4, pos := "law.go:42", after := #[{ on := 3, ground := Ground.data }, { on := 5, ground := Ground.data }, { on := 1, ground := Ground.guard }], guard := some (1, true) }) (v := ?_) rfl (by kernel_rfl) (by kernel_rfl) (by kernel_rfl) (fun _ _ _ h => h) (Or.inl ⟨by rfl, ?_⟩) (by assumption) ?_
  rotate_left
  · intro w_ hSw; (try dsimp only at hSw); go_simp; (try with_reducible rfl)
  (try simp only [Act.put, List.setIfInBounds_toArray, List.set_cons_zero, List.set_cons_succ])
  refine wpAnyH_take (i := 7) (oi := { dst := some 98, op := Op.pick (Operand.tmp 92) (Operand.tmp 97) (Operand.const (Value.bool false)), type := 4, pos := "law.go:42", after := #[{ on := 1, ground := Ground.data }, { on := 6, ground := Ground.data }], guard := none }) (v := ?_) rfl (by kernel_rfl) (by kernel_rfl) (by kernel_rfl) (fun _ _ _ h => h) (Or.inl ⟨by rfl, ?_⟩) (by assumption) ?_
  rotate_left
  · intro w_ hSw; (try dsimp only at hSw); go_simp; (try with_reducible rfl)
  (try simp only [Act.put, List.setIfInBounds_toArray, List.set_cons_zero, List.set_cons_succ])
  refine wpAnyH_take (i := 8) (oi := { dst := some 99, op := Op.move (Operand.tmp 98), type := 4, pos := "law.go:42", after := #[{ on := 7, ground := Ground.data }, { on := 5, ground := Ground.chain }], guard := none }) (v := ?_) rfl (by kernel_rfl) (by kernel_rfl) (by kernel_rfl) (fun _ _ _ h => h) (Or.inl ⟨by rfl, ?_⟩) (by assumption) ?_
  rotate_left
  · intro w_ hSw; (try dsimp only at hSw); go_simp; (try with_reducible rfl)
  (try simp only [Act.put, List.setIfInBounds_toArray, List.set_cons_zero, List.set_cons_succ])
  refine wpAnyH_take (i := 9) (oi := { dst := some 100, op := Op.load 24 (Operand.tmp 6), type := 24, pos := "law.go:42", after := #[{ on := 8, ground := Ground.guard }], guard := some (8, true) }) (v := ?_) rfl (by kernel_rfl) (by kernel_rfl) (by kernel_rfl) (fun _ _ _ h => h) (Or.inl ⟨by rfl, ?_⟩) (by assumption) ?_
  rotate_left
  · intro w_ hSw; (try dsimp only at hSw); go_simp; (try with_reducible rfl)
  (try simp only [Act.put, List.setIfInBounds_toArray, List.set_cons_zero, List.set_cons_succ])
  refine wpAnyH_take (i := 10) (oi := { dst := some 101, op := Op.move (Operand.tmp 2), type := 3, pos := "law.go:42", after := #[{ on := 8, ground := Ground.guard }], guard := some (8, true) }) (v := ?_) rfl (by kernel_rfl) (by kernel_rfl) (by kernel_rfl) (fun _ _ _ h => h) (Or.inl ⟨by rfl, ?_⟩) (by assumption) ?_
  rotate_left
  · intro w_ hSw; (try dsimp only at hSw); go_simp; (try with_reducible rfl)
  (try simp only [Act.put, List.setIfInBounds_toArray, List.set_cons_zero, List.set_cons_succ])
  refine wpAnyH_take (i := 11) (oi := { dst := some 102, op := Op.move (Operand.tmp 4), type := 2, pos := "law.go:42", after := #[{ on := 8, ground := Ground.guard }], guard := some (8, true) }) (v := ?_) rfl (by kernel_rfl) (by kernel_rfl) (by kernel_rfl) (fun _ _ _ h => h) (Or.inl ⟨by rfl, ?_⟩) (by assumption) ?_
  rotate_left
  · intro w_ hSw; (try dsimp only at hSw); go_simp; (try with_reducible rfl)
  (try simp only [Act.put, List.setIfInBounds_toArray, List.set_cons_zero, List.set_cons_succ])
  refine wpAnyH_take (i := 12) (oi := { dst := some 103, op := Op.move (Operand.tmp 5), type := 2, pos := "law.go:42", after := #[{ on := 8, ground := Ground.guard }], guard := some (8, true) }) (v := ?_) rfl (by kernel_rfl) (by kernel_rfl) (by kernel_rfl) (fun _ _ _ h => h) (Or.inl ⟨by rfl, ?_⟩) (by assumption) ?_
  rotate_left
  · intro w_ hSw; (try dsimp only at hSw); go_simp; (try with_reducible rfl)
  (try simp only [Act.put, List.setIfInBounds_toArray, List.set_cons_zero, List.set_cons_succ])
  refine wpAnyH_take (i := 14) (oi := { dst := some 105, op := Op.load 26 (Operand.tmp 14), type := 26, pos := "law.go:42", after := #[{ on := 8, ground := Ground.guard }], guard := some (8, true) }) (v := ?_) rfl (by kernel_rfl) (by kernel_rfl) (by kernel_rfl) (fun _ _ _ h => h) (Or.inl ⟨by rfl, ?_⟩) (by assumption) ?_
  rotate_left
  · intro w_ hSw; (try dsimp only at hSw); go_simp; (try with_reducible rfl)
  (try simp only [Act.put, List.setIfInBounds_toArray, List.set_cons_zero, List.set_cons_succ])
  refine wpAnyH_take (i := 15) (oi := { dst := some 106, op := Op.move (Operand.tmp 2), type := 3, pos := "law.go:42", after := #[{ on := 8, ground := Ground.guard }], guard := some (8, true) }) (v := ?_) rfl (by kernel_rfl) (by kernel_rfl) (by kernel_rfl) (fun _ _ _ h => h) (Or.inl ⟨by rfl, ?_⟩) (by assumption) ?_
  rotate_left
  · intro w_ hSw; (try dsimp only at hSw); go_simp; (try with_reducible rfl)
  (try simp only [Act.put, List.setIfInBounds_toArray, List.set_cons_zero, List.set_cons_succ])
  refine wpAnyH_take (i := 16) (oi := { dst := some 107, op := Op.move (Operand.tmp 4), type := 2, pos := "law.go:42", after := #[{ on := 8, ground := Ground.guard }], guard := some (8, true) }) (v := ?_) rfl (by kernel_rfl) (by kernel_rfl) (by kernel_rfl) (fun _ _ _ h => h) (Or.inl ⟨by rfl, ?_⟩) (by assumption) ?_
  rotate_left
  · intro w_ hSw; (try dsimp only at hSw); go_simp; (try with_reducible rfl)
  (try simp only [Act.put, List.setIfInBounds_toArray, List.set_cons_zero, List.set_cons_succ])
  refine wpAnyH_take (i := 17) (oi := { dst := some 108, op := Op.move (Operand.tmp 5), type := 2, pos := "law.go:42", after := #[{ on := 8, ground := Ground.guard }], guard := some (8, true) }) (v := ?_) rfl (by kernel_rfl) (by kernel_rfl) (by kernel_rfl) (fun _ _ _ h => h) (Or.inl ⟨by rfl, ?_⟩) (by assumption) ?_
  rotate_left
  · intro w_ hSw; (try dsimp only at hSw); go_simp; (try with_reducible rfl)
  (try simp only [Act.put, List.setIfInBounds_toArray, List.set_cons_zero, List.set_cons_succ])
  refine wpAnyH_ready (rs := [13]) (by kernel_rfl) (by simp) ?_
  refine AllReadyH.cons rfl (fun K hK => ?_) AllReadyH.nil
  go_simp
  go_at_call 20
  (with_reducible refine (May_c a b c _ l who price limit _ HI.out d HM.out).mono ?_)
  rintro e w1113_ ⟨rfl, hb_⟩
  replace X := hide (X.out.below hb_)
  replace Z := hide (Z.out.below hb_)
  replace R := hide (R.out.below hb_)
  replace HI := hide (HI.out.below hb_)
  replace HJ := hide (HJ.out.below hb_)
  have hB := bcall hB hb_
  clear hb_
  (try go_simp)
  refine hK.out _ _ ⟨X.out.all.1, X.out.all.2.1, X.out.all.2.2.1, X.out.all.2.2.2, Z.out.all.1, Z.out.all.2.1, Z.out.all.2.2.1, Z.out.all.2.2.2, R.out.all.1, R.out.all.2.1, R.out.all.2.2.1, R.out.all.2.2.2⟩ (fun hHeld => ?_)
  (try simp only [Act.put, List.setIfInBounds_toArray, List.set_cons_zero, List.set_cons_succ])
  refine wpAnyH_ready (rs := [18]) (by kernel_rfl) (by simp) ?_
  refine AllReadyH.cons rfl (fun K hK => ?_) AllReadyH.nil
  go_simp
  go_at_call 21
  (with_reducible refine (rMay_any a b c _ l who price limit _ HI.out).mono ?_)
  rintro e w1118_ ⟨rfl, hb_⟩
  replace X := hide (X.out.below hb_)
  replace Z := hide (Z.out.below hb_)
  replace R := hide (R.out.below hb_)
  replace HI := hide (HI.out.below hb_)
  replace HJ := hide (HJ.out.below hb_)
  have hB := bcall hB hb_
  clear hb_
  rw [HM.out]
  (try go_simp)
  refine hK.out _ _ ⟨X.out.all.1, X.out.all.2.1, X.out.all.2.2.1, X.out.all.2.2.2, Z.out.all.1, Z.out.all.2.1, Z.out.all.2.2.1, Z.out.all.2.2.2, R.out.all.1, R.out.all.2.1, R.out.all.2.2.1, R.out.all.2.2.2⟩ (fun hHeld => ?_)
  (try simp only [Act.put, List.setIfInBounds_toArray, List.set_cons_zero, List.set_cons_succ])
  refine wpAnyH_take (i := 19) (oi := { dst := some 110, op := Op.binOp BinOp.eql 4 (Operand.tmp 104) (Operand.tmp 109) 4, type := 4, pos := "law.go:42", after := #[{ on := 13, ground := Ground.data }, { on := 18, ground := Ground.data }, { on := 8, ground := Ground.guard }], guard := some (8, true) }) (v := ?_) rfl (by kernel_rfl) (by kernel_rfl) (by kernel_rfl) (fun _ _ _ h => h) (Or.inl ⟨by rfl, ?_⟩) (by assumption) ?_
  rotate_left
  · intro w_ hSw; (try dsimp only at hSw); go_simp; (try with_reducible rfl)
  (try simp only [Act.put, List.setIfInBounds_toArray, List.set_cons_zero, List.set_cons_succ])
  refine wpAnyH_take (i := 20) (oi := { dst := some 111, op := Op.pick (Operand.tmp 99) (Operand.tmp 110) (Operand.const (Value.bool false)), type := 4, pos := "law.go:42", after := #[{ on := 8, ground := Ground.data }, { on := 19, ground := Ground.data }], guard := none }) (v := ?_) rfl (by kernel_rfl) (by kernel_rfl) (by kernel_rfl) (fun _ _ _ h => h) (Or.inl ⟨by rfl, ?_⟩) (by assumption) ?_
  rotate_left
  · intro w_ hSw; (try dsimp only at hSw); go_simp; (try with_reducible rfl)
  (try simp only [Act.put, List.setIfInBounds_toArray, List.set_cons_zero, List.set_cons_succ])
  refine wpAnyH_take (i := 21) (oi := { dst := some 112, op := Op.move (Operand.tmp 111), type := 4, pos := "law.go:42", after := #[{ on := 20, ground := Ground.data }, { on := 18, ground := Ground.chain }], guard := none }) (v := ?_) rfl (by kernel_rfl) (by kernel_rfl) (by kernel_rfl) (fun _ _ _ h => h) (Or.inl ⟨by rfl, ?_⟩) (by assumption) ?_
  rotate_left
  · intro w_ hSw; (try dsimp only at hSw); go_simp; (try with_reducible rfl)
  (try simp only [Act.put, List.setIfInBounds_toArray, List.set_cons_zero, List.set_cons_succ])
  refine wpAnyH_take (i := 22) (oi := { dst := some 113, op := Op.load 24 (Operand.tmp 6), type := 24, pos := "law.go:42", after := #[{ on := 21, ground := Ground.guard }], guard := some (21, true) }) (v := ?_) rfl (by kernel_rfl) (by kernel_rfl) (by kernel_rfl) (fun _ _ _ h => h) (Or.inl ⟨by rfl, ?_⟩) (by assumption) ?_
  rotate_left
  · intro w_ hSw; (try dsimp only at hSw); go_simp; (try with_reducible rfl)
  (try simp only [Act.put, List.setIfInBounds_toArray, List.set_cons_zero, List.set_cons_succ])
  refine wpAnyH_take (i := 23) (oi := { dst := some 114, op := Op.move (Operand.tmp 2), type := 3, pos := "law.go:42", after := #[{ on := 21, ground := Ground.guard }], guard := some (21, true) }) (v := ?_) rfl (by kernel_rfl) (by kernel_rfl) (by kernel_rfl) (fun _ _ _ h => h) (Or.inl ⟨by rfl, ?_⟩) (by assumption) ?_
  rotate_left
  · intro w_ hSw; (try dsimp only at hSw); go_simp; (try with_reducible rfl)
  (try simp only [Act.put, List.setIfInBounds_toArray, List.set_cons_zero, List.set_cons_succ])
  refine wpAnyH_take (i := 24) (oi := { dst := some 115, op := Op.move (Operand.tmp 4), type := 2, pos := "law.go:42", after := #[{ on := 21, ground := Ground.guard }], guard := some (21, true) }) (v := ?_) rfl (by kernel_rfl) (by kernel_rfl) (by kernel_rfl) (fun _ _ _ h => h) (Or.inl ⟨by rfl, ?_⟩) (by assumption) ?_
  rotate_left
  · intro w_ hSw; (try dsimp only at hSw); go_simp; (try with_reducible rfl)
  (try simp only [Act.put, List.setIfInBounds_toArray, List.set_cons_zero, List.set_cons_succ])
  refine wpAnyH_take (i := 25) (oi := { dst := some 116, op := Op.move (Operand.tmp 5), type := 2, pos := "law.go:42", after := #[{ on := 21, ground := Ground.guard }], guard := some (21, true) }) (v := ?_) rfl (by kernel_rfl) (by kernel_rfl) (by kernel_rfl) (fun _ _ _ h => h) (Or.inl ⟨by rfl, ?_⟩) (by assumption) ?_
  rotate_left
  · intro w_ hSw; (try dsimp only at hSw); go_simp; (try with_reducible rfl)
  (try simp only [Act.put, List.setIfInBounds_toArray, List.set_cons_zero, List.set_cons_succ])
  refine wpAnyH_take (i := 27) (oi := { dst := some 118, op := Op.load 26 (Operand.tmp 14), type := 26, pos := "law.go:42", after := #[{ on := 21, ground := Ground.guard }], guard := some (21, true) }) (v := ?_) rfl (by kernel_rfl) (by kernel_rfl) (by kernel_rfl) (fun _ _ _ h => h) (Or.inl ⟨by rfl, ?_⟩) (by assumption) ?_
  rotate_left
  · intro w_ hSw; (try dsimp only at hSw); go_simp; (try with_reducible rfl)
  (try simp only [Act.put, List.setIfInBounds_toArray, List.set_cons_zero, List.set_cons_succ])
  refine wpAnyH_take (i := 28) (oi := { dst := some 119, op := Op.move (Operand.tmp 2), type := 3, pos := "law.go:42", after := #[{ on := 21, ground := Ground.guard }], guard := some (21, true) }) (v := ?_) rfl (by kernel_rfl) (by kernel_rfl) (by kernel_rfl) (fun _ _ _ h => h) (Or.inl ⟨by rfl, ?_⟩) (by assumption) ?_
  rotate_left
  · intro w_ hSw; (try dsimp only at hSw); go_simp; (try with_reducible rfl)
  (try simp only [Act.put, List.setIfInBounds_toArray, List.set_cons_zero, List.set_cons_succ])
  refine wpAnyH_take (i := 29) (oi := { dst := some 120, op := Op.move (Operand.tmp 4), type := 2, pos := "law.go:42", after := #[{ on := 21, ground := Ground.guard }], guard := some (21, true) }) (v := ?_) rfl (by kernel_rfl) (by kernel_rfl) (by kernel_rfl) (fun _ _ _ h => h) (Or.inl ⟨by rfl, ?_⟩) (by assumption) ?_
  rotate_left
  · intro w_ hSw; (try dsimp only at hSw); go_simp; (try with_reducible rfl)
  (try simp only [Act.put, List.setIfInBounds_toArray, List.set_cons_zero, List.set_cons_succ])
  refine wpAnyH_take (i := 30) (oi := { dst := some 121, op := Op.move (Operand.tmp 5), type := 2, pos := "law.go:42", after := #[{ on := 21, ground := Ground.guard }], guard := some (21, true) }) (v := ?_) rfl (by kernel_rfl) (by kernel_rfl) (by kernel_rfl) (fun _ _ _ h => h) (Or.inl ⟨by rfl, ?_⟩) (by assumption) ?_
  rotate_left
  · intro w_ hSw; (try dsimp only at hSw); go_simp; (try with_reducible rfl)
  (try simp only [Act.put, List.setIfInBounds_toArray, List.set_cons_zero, List.set_cons_succ])
  refine wpAnyH_ready (rs := [26]) (by kernel_rfl) (by simp) ?_
  refine AllReadyH.cons rfl (fun K hK => ?_) AllReadyH.nil
  go_simp
  go_at_call 22
  (with_reducible refine (Lacks_c a b c _ l who price limit _ HI.out lk HLK.out).mono ?_)
  rintro e w1126_ ⟨rfl, hb_⟩
  replace X := hide (X.out.below hb_)
  replace Z := hide (Z.out.below hb_)
  replace R := hide (R.out.below hb_)
  replace HI := hide (HI.out.below hb_)
  replace HJ := hide (HJ.out.below hb_)
  have hB := bcall hB hb_
  clear hb_
  (try go_simp)
  refine hK.out _ _ ⟨X.out.all.1, X.out.all.2.1, X.out.all.2.2.1, X.out.all.2.2.2, Z.out.all.1, Z.out.all.2.1, Z.out.all.2.2.1, Z.out.all.2.2.2, R.out.all.1, R.out.all.2.1, R.out.all.2.2.1, R.out.all.2.2.2⟩ (fun hHeld => ?_)
  (try simp only [Act.put, List.setIfInBounds_toArray, List.set_cons_zero, List.set_cons_succ])
  refine wpAnyH_ready (rs := [31]) (by kernel_rfl) (by simp) ?_
  refine AllReadyH.cons rfl (fun K hK => ?_) AllReadyH.nil
  go_simp
  go_at_call 23
  (with_reducible refine (rLacks_any a b c _ l who price limit _ HI.out).mono ?_)
  rintro e w1131_ ⟨rfl, hb_⟩
  replace X := hide (X.out.below hb_)
  replace Z := hide (Z.out.below hb_)
  replace R := hide (R.out.below hb_)
  replace HI := hide (HI.out.below hb_)
  replace HJ := hide (HJ.out.below hb_)
  have hB := bcall hB hb_
  clear hb_
  rw [HLK.out]
  (try go_simp)
  refine hK.out _ _ ⟨X.out.all.1, X.out.all.2.1, X.out.all.2.2.1, X.out.all.2.2.2, Z.out.all.1, Z.out.all.2.1, Z.out.all.2.2.1, Z.out.all.2.2.2, R.out.all.1, R.out.all.2.1, R.out.all.2.2.1, R.out.all.2.2.2⟩ (fun hHeld => ?_)
  (try simp only [Act.put, List.setIfInBounds_toArray, List.set_cons_zero, List.set_cons_succ])
  refine wpAnyH_take (i := 32) (oi := { dst := some 123, op := Op.binOp BinOp.eql 2 (Operand.tmp 117) (Operand.tmp 122) 2, type := 4, pos := "law.go:42", after := #[{ on := 26, ground := Ground.data }, { on := 31, ground := Ground.data }, { on := 21, ground := Ground.guard }], guard := some (21, true) }) (v := ?_) rfl (by kernel_rfl) (by kernel_rfl) (by kernel_rfl) (fun _ _ _ h => h) (Or.inl ⟨by rfl, ?_⟩) (by assumption) ?_
  rotate_left
  · intro w_ hSw; (try dsimp only at hSw); go_simp; (try with_reducible rfl)
  (try simp only [Act.put, List.setIfInBounds_toArray, List.set_cons_zero, List.set_cons_succ])
  refine wpAnyH_take (i := 33) (oi := { dst := some 124, op := Op.pick (Operand.tmp 112) (Operand.tmp 123) (Operand.const (Value.bool false)), type := 4, pos := "law.go:42", after := #[{ on := 21, ground := Ground.data }, { on := 32, ground := Ground.data }], guard := none }) (v := ?_) rfl (by kernel_rfl) (by kernel_rfl) (by kernel_rfl) (fun _ _ _ h => h) (Or.inl ⟨by rfl, ?_⟩) (by assumption) ?_
  rotate_left
  · intro w_ hSw; (try dsimp only at hSw); go_simp; (try with_reducible rfl)
  (try simp only [Act.put, List.setIfInBounds_toArray, List.set_cons_zero, List.set_cons_succ])
  refine wpAnyH_take (i := 34) (oi := { dst := some 125, op := Op.move (Operand.tmp 124), type := 4, pos := "law.go:42", after := #[{ on := 33, ground := Ground.data }, { on := 31, ground := Ground.chain }], guard := none }) (v := ?_) rfl (by kernel_rfl) (by kernel_rfl) (by kernel_rfl) (fun _ _ _ h => h) (Or.inl ⟨by rfl, ?_⟩) (by assumption) ?_
  rotate_left
  · intro w_ hSw; (try dsimp only at hSw); go_simp; (try with_reducible rfl)
  (try simp only [Act.put, List.setIfInBounds_toArray, List.set_cons_zero, List.set_cons_succ])
  refine wpAnyH_take (i := 35) (oi := { dst := some 126, op := Op.load 24 (Operand.tmp 6), type := 24, pos := "law.go:42", after := #[{ on := 34, ground := Ground.guard }], guard := some (34, true) }) (v := ?_) rfl (by kernel_rfl) (by kernel_rfl) (by kernel_rfl) (fun _ _ _ h => h) (Or.inl ⟨by rfl, ?_⟩) (by assumption) ?_
  rotate_left
  · intro w_ hSw; (try dsimp only at hSw); go_simp; (try with_reducible rfl)
  (try simp only [Act.put, List.setIfInBounds_toArray, List.set_cons_zero, List.set_cons_succ])
  refine wpAnyH_take (i := 36) (oi := { dst := some 127, op := Op.load 24 (Operand.tmp 7), type := 24, pos := "law.go:42", after := #[{ on := 34, ground := Ground.guard }], guard := some (34, true) }) (v := ?_) rfl (by kernel_rfl) (by kernel_rfl) (by kernel_rfl) (fun _ _ _ h => h) (Or.inl ⟨by rfl, ?_⟩) (by assumption) ?_
  rotate_left
  · intro w_ hSw; (try dsimp only at hSw); go_simp; (try with_reducible rfl)
  (try simp only [Act.put, List.setIfInBounds_toArray, List.set_cons_zero, List.set_cons_succ])
  refine wpAnyH_take (i := 38) (oi := { dst := some 129, op := Op.load 26 (Operand.tmp 14), type := 26, pos := "law.go:42", after := #[{ on := 34, ground := Ground.guard }], guard := some (34, true) }) (v := ?_) rfl (by kernel_rfl) (by kernel_rfl) (by kernel_rfl) (fun _ _ _ h => h) (Or.inl ⟨by rfl, ?_⟩) (by assumption) ?_
  rotate_left
  · intro w_ hSw; (try dsimp only at hSw); go_simp; (try with_reducible rfl)
  (try simp only [Act.put, List.setIfInBounds_toArray, List.set_cons_zero, List.set_cons_succ])
  refine wpAnyH_take (i := 39) (oi := { dst := some 130, op := Op.load 24 (Operand.tmp 7), type := 24, pos := "law.go:42", after := #[{ on := 34, ground := Ground.guard }], guard := some (34, true) }) (v := ?_) rfl (by kernel_rfl) (by kernel_rfl) (by kernel_rfl) (fun _ _ _ h => h) (Or.inl ⟨by rfl, ?_⟩) (by assumption) ?_
  rotate_left
  · intro w_ hSw; (try dsimp only at hSw); go_simp; (try with_reducible rfl)
  (try simp only [Act.put, List.setIfInBounds_toArray, List.set_cons_zero, List.set_cons_succ])
  refine wpAnyH_ready (rs := [37]) (by kernel_rfl) (by simp) ?_
  refine AllReadyH.cons rfl (fun K hK => ?_) AllReadyH.nil
  go_simp
  go_at_call 24
  (with_reducible refine (Same_c a b c _ l a' b' c' _ l' _ HI.out HJ.out ss HSS.out).mono ?_)
  rintro e w1137_ ⟨rfl, hb_⟩
  replace X := hide (X.out.below hb_)
  replace Z := hide (Z.out.below hb_)
  replace R := hide (R.out.below hb_)
  replace HI := hide (HI.out.below hb_)
  replace HJ := hide (HJ.out.below hb_)
  have hB := bcall hB hb_
  clear hb_
  (try go_simp)
  refine hK.out _ _ ⟨X.out.all.1, X.out.all.2.1, X.out.all.2.2.1, X.out.all.2.2.2, Z.out.all.1, Z.out.all.2.1, Z.out.all.2.2.1, Z.out.all.2.2.2, R.out.all.1, R.out.all.2.1, R.out.all.2.2.1, R.out.all.2.2.2⟩ (fun hHeld => ?_)
  (try simp only [Act.put, List.setIfInBounds_toArray, List.set_cons_zero, List.set_cons_succ])
  refine wpAnyH_ready (rs := [40]) (by kernel_rfl) (by simp) ?_
  refine AllReadyH.cons rfl (fun K hK => ?_) AllReadyH.nil
  go_simp
  go_at_call 10
  (with_reducible refine (refLedger_any a' b' c' _ l' _ HJ.out).mono ?_)
  rintro e w1140_ ⟨rfl, hb_⟩
  replace X := hide (X.out.below hb_)
  replace Z := hide (Z.out.below hb_)
  replace R := hide (R.out.below hb_)
  replace HI := hide (HI.out.below hb_)
  replace HJ := hide (HJ.out.below hb_)
  have hB := bcall hB hb_
  clear hb_
  (try go_simp)
  refine hK.out _ _ ⟨X.out.all.1, X.out.all.2.1, X.out.all.2.2.1, X.out.all.2.2.2, Z.out.all.1, Z.out.all.2.1, Z.out.all.2.2.1, Z.out.all.2.2.2, R.out.all.1, R.out.all.2.1, R.out.all.2.2.1, R.out.all.2.2.2⟩ (fun hHeld => ?_)
  (try simp only [Act.put, List.setIfInBounds_toArray, List.set_cons_zero, List.set_cons_succ])
  refine wpAnyH_ready (rs := [41]) (by kernel_rfl) (by simp) ?_
  refine AllReadyH.cons rfl (fun K hK => ?_) AllReadyH.nil
  go_simp
  go_at_call 15
  (with_reducible refine (rSame_any a b c _ l a' b' c' _ l' _ HI.out HJ.out).mono ?_)
  rintro e w1141_ ⟨rfl, hb_⟩
  replace X := hide (X.out.below hb_)
  replace Z := hide (Z.out.below hb_)
  replace R := hide (R.out.below hb_)
  replace HI := hide (HI.out.below hb_)
  replace HJ := hide (HJ.out.below hb_)
  have hB := bcall hB hb_
  clear hb_
  rw [HSS.out]
  (try go_simp)
  refine hK.out _ _ ⟨X.out.all.1, X.out.all.2.1, X.out.all.2.2.1, X.out.all.2.2.2, Z.out.all.1, Z.out.all.2.1, Z.out.all.2.2.1, Z.out.all.2.2.2, R.out.all.1, R.out.all.2.1, R.out.all.2.2.1, R.out.all.2.2.2⟩ (fun hHeld => ?_)
  (try simp only [Act.put, List.setIfInBounds_toArray, List.set_cons_zero, List.set_cons_succ])
  refine wpAnyH_take (i := 42) (oi := { dst := some 133, op := Op.binOp BinOp.eql 4 (Operand.tmp 128) (Operand.tmp 132) 4, type := 4, pos := "law.go:42", after := #[{ on := 37, ground := Ground.data }, { on := 41, ground := Ground.data }, { on := 34, ground := Ground.guard }], guard := some (34, true) }) (v := ?_) rfl (by kernel_rfl) (by kernel_rfl) (by kernel_rfl) (fun _ _ _ h => h) (Or.inl ⟨by rfl, ?_⟩) (by assumption) ?_
  rotate_left
  · intro w_ hSw; (try dsimp only at hSw); go_simp; (try with_reducible rfl)
  (try simp only [Act.put, List.setIfInBounds_toArray, List.set_cons_zero, List.set_cons_succ])
  refine wpAnyH_take (i := 43) (oi := { dst := some 134, op := Op.pick (Operand.tmp 125) (Operand.tmp 133) (Operand.const (Value.bool false)), type := 4, pos := "law.go:42", after := #[{ on := 34, ground := Ground.data }, { on := 42, ground := Ground.data }], guard := none }) (v := ?_) rfl (by kernel_rfl) (by kernel_rfl) (by kernel_rfl) (fun _ _ _ h => h) (Or.inl ⟨by rfl, ?_⟩) (by assumption) ?_
  rotate_left
  · intro w_ hSw; (try dsimp only at hSw); go_simp; (try with_reducible rfl)
  (try simp only [Act.put, List.setIfInBounds_toArray, List.set_cons_zero, List.set_cons_succ])
  refine wpAnyH_take (i := 44) (oi := { dst := some 135, op := Op.move (Operand.tmp 134), type := 4, pos := "law.go:42", after := #[{ on := 43, ground := Ground.data }, { on := 41, ground := Ground.chain }], guard := none }) (v := ?_) rfl (by kernel_rfl) (by kernel_rfl) (by kernel_rfl) (fun _ _ _ h => h) (Or.inl ⟨by rfl, ?_⟩) (by assumption) ?_
  rotate_left
  · intro w_ hSw; (try dsimp only at hSw); go_simp; (try with_reducible rfl)
  (try simp only [Act.put, List.setIfInBounds_toArray, List.set_cons_zero, List.set_cons_succ])
  refine wpAnyH_take (i := 45) (oi := { dst := some 136, op := Op.move (Operand.tmp 2), type := 3, pos := "law.go:42", after := #[{ on := 44, ground := Ground.guard }], guard := some (44, true) }) (v := ?_) rfl (by kernel_rfl) (by kernel_rfl) (by kernel_rfl) (fun _ _ _ h => h) (Or.inl ⟨by rfl, ?_⟩) (by assumption) ?_
  rotate_left
  · intro w_ hSw; (try dsimp only at hSw); go_simp; (try with_reducible rfl)
  (try simp only [Act.put, List.setIfInBounds_toArray, List.set_cons_zero, List.set_cons_succ])
  refine wpAnyH_take (i := 48) (oi := { dst := some 139, op := Op.move (Operand.tmp 2), type := 3, pos := "law.go:42", after := #[{ on := 44, ground := Ground.guard }], guard := some (44, true) }) (v := ?_) rfl (by kernel_rfl) (by kernel_rfl) (by kernel_rfl) (fun _ _ _ h => h) (Or.inl ⟨by rfl, ?_⟩) (by assumption) ?_
  rotate_left
  · intro w_ hSw; (try dsimp only at hSw); go_simp; (try with_reducible rfl)
  (try simp only [Act.put, List.setIfInBounds_toArray, List.set_cons_zero, List.set_cons_succ])
  refine wpAnyH_ready (rs := [46]) (by kernel_rfl) (by simp) ?_
  refine AllReadyH.cons rfl (fun K hK => ?_) AllReadyH.nil
  go_simp
  go_at_call 25
  (with_reducible refine (New_c who nl NN HNL.out HNN.out _).mono ?_)
  rintro e w1146_ ⟨A1146_, c1146_, rfl, ⟨p1146_, q1146_⟩, E1, hb_⟩
  have E1 := hide E1
  replace X := hide (X.out.below hb_)
  replace Z := hide (Z.out.below hb_)
  replace R := hide (R.out.below hb_)
  replace HI := hide (HI.out.below hb_)
  replace HJ := hide (HJ.out.below hb_)
  have hB := bcall hB hb_
  clear hb_
  (try go_simp)
  refine hK.out _ _ ⟨X.out.all.1, X.out.all.2.1, X.out.all.2.2.1, X.out.all.2.2.2, Z.out.all.1, Z.out.all.2.1, Z.out.all.2.2.1, Z.out.all.2.2.2, R.out.all.1, R.out.all.2.1, R.out.all.2.2.1, R.out.all.2.2.2⟩ (fun hHeld => ?_)
  (try simp only [Act.put, List.setIfInBounds_toArray, List.set_cons_zero, List.set_cons_succ])
  refine wpAnyH_ready (rs := [47]) (by kernel_rfl) (by simp) ?_
  refine AllReadyH.cons rfl (fun K hK => ?_) AllReadyH.nil
  go_simp
  go_at_call 10
  (with_reducible refine (refLedger_any 0 0 0 _ nl _ E1.out).mono ?_)
  rintro e w1147_ ⟨rfl, hb_⟩
  replace X := hide (X.out.below hb_)
  replace Z := hide (Z.out.below hb_)
  replace R := hide (R.out.below hb_)
  replace HI := hide (HI.out.below hb_)
  replace HJ := hide (HJ.out.below hb_)
  replace E1 := hide (E1.out.below hb_)
  have hB := bcall hB hb_
  clear hb_
  (try go_simp)
  refine hK.out _ _ ⟨X.out.all.1, X.out.all.2.1, X.out.all.2.2.1, X.out.all.2.2.2, Z.out.all.1, Z.out.all.2.1, Z.out.all.2.2.1, Z.out.all.2.2.2, R.out.all.1, R.out.all.2.1, R.out.all.2.2.1, R.out.all.2.2.2⟩ (fun hHeld => ?_)
  (try simp only [Act.put, List.setIfInBounds_toArray, List.set_cons_zero, List.set_cons_succ])
  refine wpAnyH_ready (rs := [49]) (by kernel_rfl) (by simp) ?_
  refine AllReadyH.cons rfl (fun K hK => ?_) AllReadyH.nil
  go_simp
  go_at_call 26
  (with_reducible refine (rNew_c who nl NN HNL.out HNN.out _).mono ?_)
  rintro e w1149_ ⟨A1149_, c1149_, rfl, ⟨p1149_, q1149_⟩, E2, hb_⟩
  have E2 := hide E2
  replace X := hide (X.out.below hb_)
  replace Z := hide (Z.out.below hb_)
  replace R := hide (R.out.below hb_)
  replace HI := hide (HI.out.below hb_)
  replace HJ := hide (HJ.out.below hb_)
  replace E1 := hide (E1.out.below hb_)
  have hB := bcall hB hb_
  clear hb_
  (try go_simp)
  refine hK.out _ _ ⟨X.out.all.1, X.out.all.2.1, X.out.all.2.2.1, X.out.all.2.2.2, Z.out.all.1, Z.out.all.2.1, Z.out.all.2.2.1, Z.out.all.2.2.2, R.out.all.1, R.out.all.2.1, R.out.all.2.2.1, R.out.all.2.2.2⟩ (fun hHeld => ?_)
  (try simp only [Act.put, List.setIfInBounds_toArray, List.set_cons_zero, List.set_cons_succ])
  refine wpAnyH_ready (rs := [50]) (by kernel_rfl) (by simp) ?_
  refine AllReadyH.cons rfl (fun K hK => ?_) AllReadyH.nil
  go_simp
  go_at_call 15
  (with_reducible refine (rSame_yes 0 0 0 _ _ nl _ E1.out E2.out).mono ?_)
  rintro e w1150_ ⟨rfl, hb_⟩
  replace X := hide (X.out.below hb_)
  replace Z := hide (Z.out.below hb_)
  replace R := hide (R.out.below hb_)
  replace HI := hide (HI.out.below hb_)
  replace HJ := hide (HJ.out.below hb_)
  replace E1 := hide (E1.out.below hb_)
  replace E2 := hide (E2.out.below hb_)
  have hB := bcall hB hb_
  clear hb_
  (try go_simp)
  refine hK.out _ _ ⟨X.out.all.1, X.out.all.2.1, X.out.all.2.2.1, X.out.all.2.2.2, Z.out.all.1, Z.out.all.2.1, Z.out.all.2.2.1, Z.out.all.2.2.2, R.out.all.1, R.out.all.2.1, R.out.all.2.2.1, R.out.all.2.2.2⟩ (fun hHeld => ?_)
  (try simp only [Act.put, List.setIfInBounds_toArray, List.set_cons_zero, List.set_cons_succ])
  refine wpAnyH_take (i := 51) (oi := { dst := some 142, op := Op.pick (Operand.tmp 135) (Operand.tmp 141) (Operand.const (Value.bool false)), type := 4, pos := "law.go:42", after := #[{ on := 44, ground := Ground.data }, { on := 50, ground := Ground.data }], guard := none }) (v := ?_) rfl (by kernel_rfl) (by kernel_rfl) (by kernel_rfl) (fun _ _ _ h => h) (Or.inl ⟨by rfl, ?_⟩) (by assumption) ?_
  rotate_left
  · intro w_ hSw; (try dsimp only at hSw); go_simp; (try with_reducible rfl)
  (try simp only [Act.put, List.setIfInBounds_toArray, List.set_cons_zero, List.set_cons_succ])
  refine wpAnyH_take (i := 52) (oi := { dst := some 12, op := Op.assign (Operand.tmp 142), type := 4, pos := "law.go:42", after := #[{ on := 51, ground := Ground.data }, { on := 50, ground := Ground.chain }, { on := 0, ground := Ground.phase }, { on := 1, ground := Ground.phase }, { on := 2, ground := Ground.phase }, { on := 3, ground := Ground.phase }, { on := 4, ground := Ground.phase }, { on := 5, ground := Ground.phase }, { on := 6, ground := Ground.phase }, { on := 7, ground := Ground.phase }, { on := 8, ground := Ground.phase }, { on := 9, ground := Ground.phase }, { on := 10, ground := Ground.phase }, { on := 11, ground := Ground.phase }, { on := 12, ground := Ground.phase }, { on := 13, ground := Ground.phase }, { on := 14, ground := Ground.phase }, { on := 15, ground := Ground.phase }, { on := 16, ground := Ground.phase }, { on := 17, ground := Ground.phase }, { on := 18, ground := Ground.phase }, { on := 19, ground := Ground.phase }, { on := 20, ground := Ground.phase }, { on := 21, ground := Ground.phase }, { on := 22, ground := Ground.phase }, { on := 23, ground := Ground.phase }, { on := 24, ground := Ground.phase }, { on := 25, ground := Ground.phase }, { on := 26, ground := Ground.phase }, { on := 27, ground := Ground.phase }, { on := 28, ground := Ground.phase }, { on := 29, ground := Ground.phase }, { on := 30, ground := Ground.phase }, { on := 31, ground := Ground.phase }, { on := 32, ground := Ground.phase }, { on := 33, ground := Ground.phase }, { on := 34, ground := Ground.phase }, { on := 35, ground := Ground.phase }, { on := 36, ground := Ground.phase }, { on := 37, ground := Ground.phase }, { on := 38, ground := Ground.phase }, { on := 39, ground := Ground.phase }, { on := 40, ground := Ground.phase }, { on := 41, ground := Ground.phase }, { on := 42, ground := Ground.phase }, { on := 43, ground := Ground.phase }, { on := 44, ground := Ground.phase }, { on := 45, ground := Ground.phase }, { on := 46, ground := Ground.phase }, { on := 47, ground := Ground.phase }, { on := 48, ground := Ground.phase }, { on := 49, ground := Ground.phase }, { on := 50, ground := Ground.phase }, { on := 51, ground := Ground.phase }], guard := none }) (v := ?_) rfl (by kernel_rfl) (by kernel_rfl) (by kernel_rfl) (fun _ _ _ h => h) (Or.inl ⟨by rfl, ?_⟩) (by assumption) ?_
  rotate_left
  · intro w_ hSw; (try dsimp only at hSw); go_simp; (try with_reducible rfl)
  (try simp only [Act.put, List.setIfInBounds_toArray, List.set_cons_zero, List.set_cons_succ])
  refine wpAnyH_done (by kernel_rfl) ?_ _
  go_wp2
  go_ret
  exact ⟨rfl, hB⟩

set_option maxRecDepth 100000 in
theorem lifted (os : Os) (started : os.Started) (H : Type) (enc : TypeId × Value → H) :
    ReturnsInHanded {} Try.checked os 3 .any (Rows.ledgerTellsSpec.pre6 enc Try.prog Try.f3 Rows.ledgerTellsRow.domain false) (Rows.ledgerTellsSpec.post enc Try.prog Try.f3 false true false false) := by
  refine returnsInHanded_of_change_sized (C := Try.checked) ownL started (by kernel_rfl) Try.func3
    (ChangeSpec.witness6 (enc := enc) (C := Try.checked) false ⟨#[], #[.agg #[.int .i64 0, .int .i64 0, .int .i64 0, .slice none 0 0], .agg #[.int .i64 0, .int .i64 0, .int .i64 0, .slice none 0 0], .int .i64 0, .int .i64 0, .int .i64 0, .int .i64 0], []⟩ 8 (by kernel_rfl) (by kernel_rfl) (by kernel_rfl) (by kernel_rfl)) ?_
  intro W base args ds gs before hval hW _ hsz0 _
  have hW' := hW
  obtain ⟨p, q, hA0, hV, rfl, hfz, hnd⟩ := hW
  have hA : DataW.TrodAll enc Try.prog W 0 (fun _ => true) true Try.f3.params.toList args.toList ds p := hA0
  rw [Try.params3] at hA hval
  obtain ⟨v0, vs0, d0, ds0, p0, q0, hargs, rfl, rfl, h0, r0⟩ := trodAll_cons hA
  obtain ⟨v1, vs1, d1, ds1, p1, q1, rfl, rfl, rfl, h1, r1⟩ := trodAll_cons r0
  obtain ⟨v2, vs2, d2, ds2, p2, q2, rfl, rfl, rfl, h2, r2⟩ := trodAll_cons r1
  obtain ⟨v3, vs3, d3, ds3, p3, q3, rfl, rfl, rfl, h3, r3⟩ := trodAll_cons r2
  obtain ⟨v4, vs4, d4, ds4, p4, q4, rfl, rfl, rfl, h4, r4⟩ := trodAll_cons r3
  obtain ⟨v5, vs5, d5, ds5, p5, q5, rfl, rfl, rfl, h5, r5⟩ := trodAll_cons r4
  obtain ⟨rfl, rfl, rfl⟩ := trodAll_nil r5
  obtain rfl : args = #[v0, v1, v2, v3, v4, v5] := by cases args; simp_all
  obtain ⟨rfl, rfl⟩ := trodVars_none hV
  obtain ⟨a0, b0, c0, u0, l0, rfl, hg0, hr0, hf0⟩ := open_ledger (hval 0 24 v0 rfl rfl) h0
  obtain ⟨a1, b1, c1, u1, l1, rfl, hg1, hr1, hf1⟩ := open_ledger (hval 1 24 v1 rfl rfl) h1
  obtain ⟨a2, rfl, rfl, rfl, w2⟩ := open_int Try.underlying3 (hval 2 3 v2 rfl rfl) h2
  have hx2 : -9223372036854775808 ≤ a2 ∧ a2 ≤ 9223372036854775807 := by simpa [Lit.wf, IntKind.min, IntKind.max, IntKind.signed, IntKind.bits] using w2
  obtain ⟨a3, rfl, rfl, rfl, w3⟩ := open_int Try.underlying2 (hval 3 2 v3 rfl rfl) h3
  have hx3 : -9223372036854775808 ≤ a3 ∧ a3 ≤ 9223372036854775807 := by simpa [Lit.wf, IntKind.min, IntKind.max, IntKind.signed, IntKind.bits] using w3
  obtain ⟨a4, rfl, rfl, rfl, w4⟩ := open_int Try.underlying2 (hval 4 2 v4 rfl rfl) h4
  have hx4 : -9223372036854775808 ≤ a4 ∧ a4 ≤ 9223372036854775807 := by simpa [Lit.wf, IntKind.min, IntKind.max, IntKind.signed, IntKind.bits] using w4
  obtain ⟨a5, rfl, rfl, rfl, w5⟩ := open_int Try.underlying2 (hval 5 2 v5 rfl rfl) h5
  have hx5 : -9223372036854775808 ≤ a5 ∧ a5 ≤ 9223372036854775807 := by simpa [Lit.wf, IntKind.min, IntKind.max, IntKind.signed, IntKind.bits] using w5
  have hsz : (DataW.weightsEach Try.prog [24, 24, 3, 2, 2, 2] ([d0, d1, .lit (.int .i64 a2), .lit (.int .i64 a3), .lit (.int .i64 a4), .lit (.int .i64 a5)] : List (DataW H))).all (· ≤ reachBytes) = true := hsz0
  have e0 : l0.length * 8 ≤ 140737488351232 := hf0 fun k hk => by have h1 := List.all_eq_true.1 hsz k (DataW.weights_mem_each (j := 0) rfl rfl k hk); simpa [reachBytes] using of_decide_eq_true h1
  have e1 : l1.length * 8 ≤ 140737488351232 := hf1 fun k hk => by have h1 := List.all_eq_true.1 hsz k (DataW.weights_mem_each (j := 1) rfl rfl k hk); simpa [reachBytes] using of_decide_eq_true h1
  refine (walk a0 b0 c0 u0 l0 a1 b1 c1 u1 l1 a2 a3 a4 a5 e0 W hg0 hg1).mono fun e W' ⟨he, hg⟩ => ?_
  subst he
  exact ⟨_, rfl, law_post laidOutL (by kernel_rfl) rfl Try.underlying4 rfl ⟨rfl, rfl, rfl⟩ hW' hg⟩

/-- THE STATEMENT -/
theorem proved : Rows.LedgerTellsSaid :=
  OpenClaim.holds_of_wide 3 Try.f3 rfl rfl rfl rfl rfl rfl rfl ⟨rfl, rfl, rfl, rfl, rfl⟩ rfl rfl rfl rfl rfl (by kernel_rfl) Try.func3 (by kernel_rfl)
    (of_decide_eq_true (by kernel_rfl)) (by unfold Func.isWrapper; first | (rw [if_pos (by decide +kernel)]; kernel_rfl) | (rw [if_neg (by decide +kernel)]; exact ⟨rfl, rfl⟩))
    (fun os started H enc _ => lifted os started H enc)
end Go.Proofs.Ytgbkphgclpgppaa.lawLedgerTells
