/- Layer plan: the law PlanLines. Written by tools/genplanlines.py. -/
import Derived.Test.YtjnokhaojpijhaaGreatDoorPPlanTurns0
import Derived.Test.YtjnokhaojpijhaaGreatDoorPPlanLinesP
import Derived.Test.YtjnokhaojpijhaaGreatDoorPExtra4
import Derived.Test.YtjnokhaojpijhaaGreatDoorPExtra3
namespace Go.Proofs.YtjnokhaojpijhaaGreatDoor
open Go.RowKit Go.Shelf Go.Proofs Go.Joins
set_option maxRecDepth 100000 in
set_option maxHeartbeats 16000000 in
theorem lines_walk (v : Value) (l : List Int) (kk : Int) (w : World) (hl : Bytes w v l) (hr : ∀ b ∈ l, 0 ≤ b ∧ b ≤ 255) (hk : 0 ≤ kk ∧ kk ≤ 255) (hE : EnvP w) :
    Calls Tryz.prog 8 #[v, .int .u8 kk] w fun x w' => x = .returned (.bool true) ∧ Below w.heap.size w w' := by
  have HE := hide hE
  have HL := hide hl
  have HR := hide hr
  obtain ⟨Av, cv, rfl, hv1, hv2, -⟩ := id hl
  obtain ⟨hk0, hk1⟩ := hk
  clear hl hr hE
  go_enter Tryz.func8, Tryz.ntmps8
  go_wp2_with fail
  (with_reducible refine (examples_anyPl _ HE.out).mono ?_)
  rintro x wa ⟨rfl, hb⟩
  have HBA := hide hb
  clear hb
  go_wp2_with fail
  (with_reducible refine (made_h _ l _ (HL.out.below HBA.out) HR.out).mono ?_)
  rintro x wb ⟨a, b, c, d, e, f, g, h, n, s, lo, lr, lp, A0, c0, A1, c1, A2, c2, rfl, HP, HQ, hb⟩
  have HBA := hide (bcall HBA.out hb)
  clear hb
  have hq := madeQ (byteG (l.take 90))
  rw [← HQ.out] at hq
  have HEn := hide (HE.out.below HBA.out)
  have hf1 := hP_form (p := (⟨a, b, c, d, e, f, g, h, n, lo, s, lr, lp, []⟩ : Pq)) HP.out
  dsimp only at hf1
  obtain ⟨hf0, hf1, hf2, hf3, hf4, hf5⟩ := hf1
  obtain ⟨w1, e1, hb1, hs1, X1⟩ := bp_new wb a b c d e f g h n (.slice A0 lo.length c0) s (.slice A1 lr.length c1) (.slice A2 lp.length c2) (.slice none 0 0) 30
  have HE1 := hide e1
  have HX1 := hide X1
  have HB1 := hide hb1
  clear e1 X1 hb1 hs1
  obtain ⟨Ls, hLs⟩ : ∃ L, linesT (⟨a, b, c, d, e, f, g, h, n, lo, s, lr, lp, []⟩ : Pq) = L := ⟨_, rfl⟩
  obtain ⟨T, hT⟩ : ∃ T, pText (⟨a, b, c, d, e, f, g, h, n, lo, s, lr, lp, []⟩ : Pq) = T := ⟨_, rfl⟩
  have hTF : fedT Ls = T := by rw [← hLs, ← hT, text_is hq.rt]
  have hno := lines_no hq.rt
  have hsm := text_small hq.rt
  have hll := lines_len hq.rt
  rw [hLs] at hno hsm hll
  rw [hTF] at hsm
  dsimp only at hll
  have hless : ∀ k, k < Ls.length → pParse (fedT (Ls.eraseIdx k)) = (zeroQ, 2) := fun k hk => by have h := less_err hq.rt (k := k) (by rw [hLs]; exact hk); rwa [hLs] at h
  have hmore : ∀ k, k < Ls.length → pParse (fedT (dupF k Ls)) = (zeroQ, 2) := fun k hk => by have h := more_err hq.rt (k := k) (by rw [hLs]; exact hk); rwa [hLs] at h
  have hbeh : pParse (T ++ [32]) = (zeroQ, 2) := by have h := behind_err hq.rt; rwa [hLs, hTF] at h
  have hcut : pParse (T.take (T.length - 1)) = (zeroQ, 2) := by have h := cutoff_err hq.rt; rwa [hLs, hTF] at h
  have hmm := hq.mu
  have hnum := hq.rt.rng
  unfold pRng at hnum
  dsimp only at hmm hnum
  obtain ⟨NN, hNN⟩ : ∃ k, Ls.length = k := ⟨_, rfl⟩
  obtain ⟨TL, hTL⟩ : ∃ k, T.length = k := ⟨_, rfl⟩
  rw [hNN] at hll hless hmore
  rw [hTL] at hsm hcut
  have hN4 : 4 ≤ NN ∧ NN ≤ 6 := by omega
  obtain ⟨S, hS⟩ : ∃ S : ByteArray, (⟨T.toArray⟩ : ByteArray) = S := ⟨_, rfl⟩
  have hSd : S.data.toList = T := by rw [← hS]
  have hSz : S.size = TL := by rw [← hS, ← hTL]; simp [ByteArray.size]
  have HRO := hide hq.ro
  have HLs := hide hLs
  have HT := hide hT
  have HTF := hide hTF
  have HNO := hide hno
  have HLESS := hide hless
  have HMORE := hide hmore
  have HBEH := hide hbeh
  have HCUT := hide hcut
  have HNN := hide hNN
  have HTL := hide hTL
  have HS := hide hS
  have HSD := hide hSd
  have HSZ := hide hSz
  have HLL := hide hll
  clear hq hLs hT hTF hno hless hmore hbeh hcut hNN hTL hS hSd hSz hll
  go_upto_region 5 with (fail)
  rw [HE1.out]
  obtain ⟨x0, x1, x2, x3, x4, x5, x6, x7, x8, x9, xa, xb, xc, xd⟩ := HX1.out.cells
  go_wp2_with fail
  (with_reducible refine (pText_any a b c d e f g h n (.slice A0 lo.length c0) s (.slice A1 lr.length c1) (.slice A2 lp.length c2) (.slice none 0 0) lo lr lp [] _ HRO.out (HP.out.below HB1.out) (HEn.out.below HB1.out) T HT.out).mono ?_)
  rintro x w5 ⟨rfl, hb⟩
  rw [HS.out]
  have HB5 := hide (bcall HB1.out hb)
  have HX5 := hide (HX1.out.below hb)
  clear hb
  clear x0 x1 x2 x3 x4 x5 x6 x7 x8 x9 xa xb xc xd
  obtain ⟨i0, hi, hz0, hz1, hz2⟩ := info_parts infoStrPl
  go_wp2
  go_loopw [8, 9, 10] (fun lv fv iv wr => ∃ (m i G : Nat), m ≤ NN ∧ i ≤ TL ∧ G ≤ i ∧ iv = .int .i64 i ∧ fv = .int .i64 G ∧ Hid (flen Ls m = G) ∧ Hid (∀ hm : m < Ls.length, i ≤ G + (Ls[m]'hm).length) ∧ Hid (Below w5.heap.size w5 wr) ∧ Hid (wr.ownsRow w5.heap.size 9 1 lv m (((Ls.take m).map (· ++ [10])).flatMap tcRf))) (fun _ _ iv _ => TL - (intOf iv).toNat)
  case atStart => exact ⟨0, 0, 0, by omega, by omega, by omega, rfl, rfl, hide rfl, hide (fun _ => by omega), hide (Below.refl _ _), hide (World.ownsRow_nil _ _ _ _)⟩
  case round =>
    obtain ⟨m, i, G, hmN, hiT, hGi, rfl, rfl, HG, HI, HBC, HOW⟩ := hrel
    obtain ⟨Ao, co, rfl, hco1, hco2⟩ := own_form HOW.out
    unfold maxLen at hco2
    have hsz := HSZ.out
    by_cases hit : i < TL
    · have hmlt : m < NN := by
        rcases Nat.lt_or_ge m NN with h | h
        · exact h
        · have e : m = NN := by omega
          have h1 := HG.out
          rw [e, ← HNN.out, flen_all, HTF.out, HTL.out] at h1
          omega
      have hmL : m < Ls.length := by rw [HNN.out]; exact hmlt
      have hiG := HI.out hmL
      obtain ⟨by_, hb1_, hb2_, hb3_⟩ := fed_byte (i := i) hmL (by rw [HG.out]; exact hGi) (by rw [HG.out]; exact hiG) HNO.out
      rw [HTF.out, ← HSD.out] at hb1_
      rw [HG.out] at hb2_ hb3_
      have hby := str_byte hb1_
      have hFS := flen_succ hmL
      rw [HG.out] at hFS
      have hFL := flen_le hmL
      rw [HG.out, HTF.out, HTL.out] at hFL
      have hSub := fed_sub hmL
      rw [HG.out, HTF.out, ← HSD.out] at hSub
      have HTK := hide (show ((Ls.take (m + 1)).map (· ++ [10])).flatMap tcRf = ((Ls.take m).map (· ++ [10])).flatMap tcRf ++ [.string ⟨(Ls[m]'hmL ++ [10]).toArray⟩] by rw [List.take_succ_eq_append_getElem hmL, List.map_append, List.flatMap_append]; rfl)
      obtain ⟨lx, hlx⟩ : ∃ x, Ls[m] = x := ⟨_, rfl⟩
      obtain ⟨ll, hll⟩ : ∃ k, Ls[m].length = k := ⟨_, rfl⟩
      rw [hll] at hiG hb2_ hb3_ hFS hFL hSub
      rw [hlx] at hSub HTK
      have HFS := hide hFS
      have HHL := hide (show ∀ hm : m < Ls.length, (Ls[m]'hm).length = ll from fun _ => hll)
      clear hb1_ hFS hll hlx
      by_cases hc : i = G + ll
      · have hb10 : by_ = 10 := hb2_ hc
        have HBY := hide (show ∀ k : i < S.size, ((S[i]'k).toNat : Int) = 10 by rw [hb10] at hby; exact hby)
        have hbc := HBY.out
        have HSUB := hide (show S.extract G (i + 1) = ⟨(lx ++ [10]).toArray⟩ by rw [ext_sub, hc, show G + ll + 1 - G = ll + 1 by omega, hSub])
        have HC := hide hc
        clear hb2_ hb3_ hby hb10 hSub hc
        have HHB := hide HBC.out.size
        go_wp2_with (at_builtin; refine wpList_append_own _ rfl _ _ 68 rfl w5.heap.size 9 i0 (.string ⟨#[]⟩) 1 16 Tryz.underlying68 hi hz0 hz1 hz2 rfl (by decide) _ _ _ rfl (HOW.out.alloc _) ⟨_, 0, none⟩ 1 1 [.string (S.extract G (i + 1))] rfl rfl (row_at _ _ _ (by simp)) (by simp [Value.oneCell']) (by simp only [maxLen]; omega) (by omega) (by have := HHB.out; simp; omega) ?_; intro v' w7 hown' hgrow _)
        go_roundw
        case rel => exact ⟨m + 1, i + 1, i + 1, by omega, by omega, by omega, by go_num, by go_num, hide (by have := HC.out; rw [HFS.out]; omega), hide (fun hm => by have := HC.out; omega), hide ((HBC.out.alloc HBC.out.size _).grown hgrow (by have := HHB.out; simp; omega) (own_ge HOW.out)), hide (by rw [HTK.out, ← HSUB.out]; exact hown')⟩
        case measure => simp [intOf]; omega
      · have hbn : by_ ≠ 10 := hb3_ (by omega)
        have hbz : ((by_.toNat : Int) == 10) = false := by
          rw [beq_eq_false_iff_ne]
          intro e
          exact hbn (by apply UInt8.toNat_inj.1; have : (10 : UInt8).toNat = 10 := rfl; omega)
        have hbz2 : ¬ (by_.toNat : Int) = 10 := by simpa using hbz
        generalize (by_.toNat : Int) = bx at *
        clear hb2_ hb3_ hSub hbn
        go_wp2
        go_roundw
        case rel => exact ⟨m, i + 1, G, by omega, by omega, by omega, by go_num, rfl, HG, hide (fun hm => by have h1 := HHL.out hm; omega), HBC, HOW⟩
        case measure => simp [intOf]; omega
    · obtain rfl : TL = i := by omega
      have hmE : NN = m := by
        rcases Nat.lt_or_ge m NN with h | h
        · exfalso
          have hmL : m < Ls.length := by rw [HNN.out]; exact h
          have h1 := HI.out hmL
          have h2 := flen_le hmL
          rw [HG.out, HTF.out, HTL.out] at h2
          omega
        · omega
      obtain rfl := hmE
      clear hmN hit
      have hPV : Pcs wr (.slice Ao NN co) (Ls.map (· ++ [10])) := by
        have h := HOW.out
        have h2 : (Ls.map (· ++ [10])).length = NN := by rw [List.length_map]; exact HNN.out
        rw [List.take_of_length_le (by rw [HNN.out]; exact Nat.le_refl _)] at h
        have h4 : wr.ownsRow w5.heap.size 9 1 (.slice Ao NN co) (Ls.map (· ++ [10])).length ((Ls.map (· ++ [10])).flatMap tcRf) := by rw [h2]; exact h
        exact Sl.of_own tc_len h4
      have HLV := hide hPV
      clear hPV
      have HXR := hide (HX5.out.below HBC.out)
      obtain ⟨w8, rfl⟩ : ∃ W, W = wr := ⟨_, rfl⟩
      have HB8 := hide (bcall HB5.out HBC.out)
      skip
      skip
      obtain ⟨x0, x1, x2, x3, x4, x5, x6, x7, x8, x9, xa, xb, xc, xd⟩ := HXR.out.cells
      have hll := HLL.out
      have hnq : ((NN : Int) != 4 + b) = false := by rw [bne_eq_false_iff_eq]; omega
      have hnq2 : (NN : Int) = 4 + b := by omega
      have hNg : (0 : Int) < (NN : Int) := by omega
      obtain ⟨at_, hat, hat2⟩ : ∃ k : Nat, kk.tmod (NN : Int) = k ∧ k < NN := by
        have h0 := Int.emod_nonneg kk (show (NN : Int) ≠ 0 by omega)
        have h1 := Int.emod_lt_of_pos kk hNg
        exact ⟨(kk % (NN : Int)).toNat, by rw [Int.tmod_eq_emod_of_nonneg hk0]; omega, by omega⟩
      have zN : ((NN : Int) == 0) = false := by simp; omega
      have zN2 : ¬ (NN : Int) = 0 := by omega
      have zN3 : ¬ NN = 0 := by omega
      have wk : IntKind.i64.wrap kk = kk := wrq kk hk0 hk1
      have wat : IntKind.i64.wrap (at_ : Int) = (at_ : Int) := wrq _ (by omega) (by omega)
      clear hll
      skip
      have HNQ := hide hnq2
      clear hnq2
      go_upto_region 17 with (fail)
      clear x0 x1 x2 x3 x4 x5 x6 x7 x8 x9 xa xb xc xd
      clear hat hnq zN zN2 zN3 wk wat
      go_wp2
      go_loopw [12, 13, 14] (fun lv mv iv wq => ∃ (i : Nat) (Le Mo : ByteArray), i ≤ NN ∧ iv = .int .i64 i ∧ lv = .string Le ∧ mv = .string Mo ∧ Le.size ≤ 20000000 ∧ Mo.size ≤ 40000000 ∧ Hid (Le.data.toList = fedT ((Ls.take i).eraseIdx at_)) ∧ Hid (Mo.data.toList = fedT (dupF at_ (Ls.take i))) ∧ Hid (Below w8.heap.size w8 wq)) (fun _ _ iv _ => NN - (intOf iv).toNat)
      case atStart => exact ⟨0, ⟨#[]⟩, ⟨#[]⟩, by omega, rfl, rfl, rfl, by decide, by decide, hide (by simp [fedT]), hide (by cases at_ <;> rfl), hide (Below.refl _ _)⟩
      case round =>
        obtain ⟨i, Le, Mo, hiN, rfl, rfl, rfl, hLe, hMo, HLE, HMO, HBD⟩ := hrel
        by_cases hit : i < NN
        · have hiL : i < Ls.length := by rw [HNN.out]; exact hit
          obtain ⟨b0, off, rfl, -, d0⟩ := pcs_at (HLV.out.below HBD.out) (k := i) (by simp; exact hiL)
          have hDT := dup_take (k := at_) hiL
          have hET := erase_take (k := at_) hiL
          have hfl := flen_le hiL
          have hd1 := dup_le (k := at_) (Ls.take (i + 1))
          have he1 := erase_le (k := at_) (Ls.take (i + 1))
          have hm1 := flen_mono Ls (i + 1)
          unfold flen at hm1
          rw [HTF.out, HTL.out] at hfl hm1
          obtain ⟨X, hX⟩ : ∃ X : ByteArray, (⟨((Ls.map (· ++ [10]))[i]'(by simp; exact hiL)).toArray⟩ : ByteArray) = X := ⟨_, rfl⟩
          rw [hX] at d0
          have hXd : X.data.toList = Ls[i] ++ [10] := by rw [← hX]; simp
          have hXs : X.size ≤ 20000001 := by have h := congrArg List.length hXd; rw [ba_len] at h; simp at h; omega
          rw [← hXd] at hDT hET
          rw [← HMO.out] at hDT
          rw [← HLE.out] at hET
          have HD1 := hide hd1
          have HE1_ := hide he1
          have HM1 := hide hm1
          have HDT := hide hDT
          have HET := hide hET
          clear hDT hET hfl hd1 he1 hm1 hX hXd
          by_cases hia : i = at_
          · have HMN := hide (show ((Mo ++ X) ++ X).data.toList = fedT (dupF at_ (Ls.take (i + 1))) by rw [HDT.out, if_pos hia]; simp [ByteArray.data_append])
            have HLN := hide (show Le.data.toList = fedT ((Ls.take (i + 1)).eraseIdx at_) by rw [HET.out, if_pos hia])
            have hiz : ((i : Int) == (at_ : Int)) = true := by rw [hia]; simp
            have HIA := hide hia
            have hsum : (Mo ++ X).size ≤ 40000000 := by
              have h := congrArg List.length HMN.out
              rw [ba_len] at h
              have h2 := HD1.out; have h3 := HM1.out
              have h4 : ((Mo ++ X) ++ X).size = (Mo ++ X).size + X.size := ByteArray.size_append
              omega
            have hsum2 : ((Mo ++ X) ++ X).size ≤ 40000000 := by
              have h := congrArg List.length HMN.out
              rw [ba_len] at h
              have h2 := HD1.out; have h3 := HM1.out
              omega
            clear hia
            go_wp2
            go_roundw
            case rel => exact ⟨i + 1, Le, (Mo ++ X) ++ X, by omega, by go_num, rfl, rfl, hLe, hsum2, HLN, HMN, HBD⟩
            case measure => simp [intOf]; omega
          · have HMN := hide (show (Mo ++ X).data.toList = fedT (dupF at_ (Ls.take (i + 1))) by rw [HDT.out, if_neg hia]; simp [ByteArray.data_append])
            have HLN := hide (show (Le ++ X).data.toList = fedT ((Ls.take (i + 1)).eraseIdx at_) by rw [HET.out, if_neg hia]; simp [ByteArray.data_append])
            have hiz : ((i : Int) == (at_ : Int)) = false := by simp; omega
            have hsum : (Mo ++ X).size ≤ 40000000 := by
              have h := congrArg List.length HMN.out
              rw [ba_len] at h
              have h2 := HD1.out; have h3 := HM1.out
              omega
            have hsum2 : (Le ++ X).size ≤ 20000000 := by
              have h := congrArg List.length HLN.out
              rw [ba_len] at h
              have h2 := HE1_.out; have h3 := HM1.out
              omega
            go_wp2
            go_roundw
            case rel => exact ⟨i + 1, Le ++ X, Mo ++ X, by omega, by go_num, rfl, rfl, hsum2, hsum, HLN, HMN, HBD⟩
            case measure => simp [intOf]; omega
        · obtain rfl : NN = i := by omega
          have htk : Ls.take NN = Ls := by rw [← HNN.out]; exact List.take_of_length_le (Nat.le_refl _)
          have hlE := HLE.out
          have hmO := HMO.out
          rw [htk] at hlE hmO
          have HP1 := hide (show pParse Le.data.toList = (zeroQ, 2) by rw [hlE]; exact HLESS.out at_ hat2)
          have HP2 := hide (show pParse Mo.data.toList = (zeroQ, 2) by rw [hmO]; exact HMORE.out at_ hat2)
          have hsz := HSZ.out
          have HP3 := hide (show pParse (S ++ ⟨#[32]⟩).data.toList = (zeroQ, 2) by rw [show (S ++ ⟨#[32]⟩).data.toList = T ++ [32] by rw [← HSD.out]; simp [ByteArray.data_append]]; exact HBEH.out)
          have hSE := show (S.extract 0 (TL - 1)).data.toList = T.take (TL - 1) by rw [ext_sub, ← HSD.out]; simp
          have HP4 := hide (show pParse (S.extract 0 (TL - 1)).data.toList = (zeroQ, 2) by rw [hSE]; exact HCUT.out)
          have hs3 : (S ++ (⟨#[32]⟩ : ByteArray)).size ≤ 8796093022208 := by rw [ByteArray.size_append]; show S.size + 1 ≤ _; omega
          have hs4 : (S.extract 0 (TL - 1)).size ≤ 8796093022208 := by have h := congrArg List.length hSE; rw [ba_len, List.length_take] at h; omega
          have hTL4 : 1 ≤ TL := by
            rcases Nat.eq_zero_or_pos TL with h | h
            · exfalso
              have h1 := flen_le (L := Ls) (m := 0) (by rw [HNN.out]; omega)
              rw [HTF.out, HTL.out] at h1
              omega
            · exact h
          have HS3 := hide hs3
          have HS4 := hide hs4
          clear htk hlE hmO hSE hs3 hs4 hit hiN
          have HBE := hide (bcall HBC.out HBD.out)
          have HBF := hide (bcall HB5.out HBE.out)
          have HEn2 := hide (HEn.out.below (bcall HB5.out HBE.out))
          go_wp2_with fail
          (with_reducible refine (pParse_h Le _ (by omega) HEn2.out zeroQ 2 HP1.out 0 0 0 0 rfl rfl rfl rfl).mono ?_)
          rintro x v1 ⟨a1_, b1_, d1_, e1_, f1_, g1_, h1_, k1_, m1_, s1_, -, -, -, -, B01, p1_, B11, q1_, B21, r1_, B31, t1_, rfl, -, -, hbb⟩
          obtain ⟨u1, ue1, hub1, -, -⟩ := bp_new v1 a1_ b1_ d1_ e1_ f1_ g1_ h1_ k1_ m1_ (.slice B01 0 p1_) s1_ (.slice B11 0 q1_) (.slice B21 0 r1_) (.slice B31 0 t1_) 30
          have HUE1 := hide ue1
          have HBZ1 := hide (bcall hbb hub1)
          clear ue1 hbb hub1
          go_upto_region 27 with (fail)
          rw [HUE1.out]
          go_wp2_with fail
          (with_reducible refine (pParse_h Mo _ (by omega) (HEn2.out.below HBZ1.out) zeroQ 2 HP2.out 0 0 0 0 rfl rfl rfl rfl).mono ?_)
          rintro x v2 ⟨a2_, b2_, d2_, e2_, f2_, g2_, h2_, k2_, m2_, s2_, -, -, -, -, B02, p2_, B12, q2_, B22, r2_, B32, t2_, rfl, -, -, hbb⟩
          obtain ⟨u2, ue2, hub2, -, -⟩ := bp_new v2 a2_ b2_ d2_ e2_ f2_ g2_ h2_ k2_ m2_ (.slice B02 0 p2_) s2_ (.slice B12 0 q2_) (.slice B22 0 r2_) (.slice B32 0 t2_) 30
          have HUE2 := hide ue2
          have HBZ2 := hide (bcall HBZ1.out (bcall hbb hub2))
          clear ue2 hbb hub2
          go_upto_region 28 with (fail)
          rw [HUE2.out]
          go_wp2_with fail
          (with_reducible refine (pParse_h (S ++ ⟨#[32]⟩) _ HS3.out (HEn2.out.below HBZ2.out) zeroQ 2 HP3.out 0 0 0 0 rfl rfl rfl rfl).mono ?_)
          rintro x v3 ⟨a3_, b3_, d3_, e3_, f3_, g3_, h3_, k3_, m3_, s3_, -, -, -, -, B03, p3_, B13, q3_, B23, r3_, B33, t3_, rfl, -, -, hbb⟩
          obtain ⟨u3, ue3, hub3, -, -⟩ := bp_new v3 a3_ b3_ d3_ e3_ f3_ g3_ h3_ k3_ m3_ (.slice B03 0 p3_) s3_ (.slice B13 0 q3_) (.slice B23 0 r3_) (.slice B33 0 t3_) 30
          have HUE3 := hide ue3
          have HBZ3 := hide (bcall HBZ2.out (bcall hbb hub3))
          clear ue3 hbb hub3
          go_upto_region 29 with (fail)
          rw [HUE3.out]
          go_wp2_with fail
          (with_reducible refine (pParse_h (S.extract 0 (TL - 1)) _ HS4.out (HEn2.out.below HBZ3.out) zeroQ 2 HP4.out 0 0 0 0 rfl rfl rfl rfl).mono ?_)
          rintro x v4 ⟨a4_, b4_, d4_, e4_, f4_, g4_, h4_, k4_, m4_, s4_, -, -, -, -, B04, p4_, B14, q4_, B24, r4_, B34, t4_, rfl, -, -, hbb⟩
          obtain ⟨u4, ue4, hub4, -, -⟩ := bp_new v4 a4_ b4_ d4_ e4_ f4_ g4_ h4_ k4_ m4_ (.slice B04 0 p4_) s4_ (.slice B14 0 q4_) (.slice B24 0 r4_) (.slice B34 0 t4_) 30
          have HUE4 := hide ue4
          have HBZ4 := hide (bcall HBZ3.out (bcall hbb hub4))
          clear ue4 hbb hub4
          go_upto_region 30 with (fail)
          rw [HUE4.out]
          go_wp2
          go_ret
          exact ⟨rfl, bcall HBA.out (bcall HB5.out (bcall HBE.out HBZ4.out))⟩
end Go.Proofs.YtjnokhaojpijhaaGreatDoor
