/- Layer plan: the law PlanGreys. Written by tools/genplanlaw2.py. -/
import Derived.Test.YtjnokhaojpijhaaGreatDoorPbl
import Derived.Test.YtjnokhaojpijhaaGreatDoorPai
import Derived.Test.YtjnokhaojpijhaaGreatDoorPaj
namespace Go.Proofs.YtjnokhaojpijhaaGreatDoor
open Go.RowKit Go.Joins Go.Shelf Go.Proofs
theorem slot_has {n : Int} {ls : Rws} (h : rightF n ls = true) {o k : Int} (ho : 1 ≤ o ∧ o ≤ ls.length) (hk : 0 ≤ k ∧ k < n) : hasS ls o k = true := by
  unfold hasS
  rw [decide_eq_true_eq, rowF_mem ho, (right_rows h _ (List.getElem_mem _)).1]
  omega
theorem get_in {n : Int} {ls : Rws} (h : rightF n ls = true) (o k : Int) : 0 ≤ getF ls o k ∧ getF ls o k ≤ 64 := by
  have hl := right_len h
  unfold getF
  split
  · rename_i hs
    unfold hasS at hs
    rw [decide_eq_true_eq] at hs
    have hr := rowF_mem (ls := ls) (o := o) ⟨hs.1, hs.2.1⟩
    have hk : k.toNat < (rowF ls o).length := by omega
    rw [List.getD_eq_getElem?_getD, List.getElem?_eq_getElem hk]
    have hm : (rowF ls o)[k.toNat] ∈ rowF ls o := List.getElem_mem hk
    have hm2 := Eq.mp (congrArg (fun L => (rowF ls o)[k.toNat] ∈ L) hr) hm
    have := (right_rows h _ (List.getElem_mem _)).2 _ hm2
    rw [Option.getD_some]
    omega
  · omega
theorem First_n (n : Nat) (w : World) (hn : n ≤ 9223372036854775807) (N : Nat) (hN : firstF n = N) :
    Calls Tryz.prog 29 #[.int .i64 n] w fun e w' => e = .returned (.int .u64 (N : Nat)) ∧ w' = w := by
  subst hN; exact First_any n w (by omega) (by omega)
theorem Count_n (s : Nat) (w : World) (hs : s < 18446744073709551616) (N : Nat) (hN : cntF s = N) :
    Calls Tryz.prog 33 #[.int .u64 s] w fun e w' => e = .returned (.int .i64 (N : Nat)) ∧ w' = w := by
  subst hN; exact Count_any s w hs
set_option maxRecDepth 100000 in
set_option maxHeartbeats 16000000 in
theorem greysW_f (a b c d e f g h n : Int) (ob : Value) (s : Nat) (rg pg pk : Value) (lo lr : Rws) (lp : List (List Oq)) (lk : List PP) (w : World) (hP : PlanR w ob rg pg pk (⟨a, b, c, d, e, f, g, h, n, lo, s, lr, lp, lk⟩ : Pq)) (hs : s < 18446744073709551616) (hR : Rng lr) (hE : EnvP w) (k1 : pRight (⟨a, b, c, d, e, f, g, h, n, lo, s, lr, lp, lk⟩ : Pq) = false) :
    Calls Tryz.prog 5 #[planV a b c d e f g h n ob s rg pg pk] w fun x w' => x = .returned (.bool true) ∧ Below w.heap.size w w' := by
  obtain ⟨Ao, mo_, rfl, hmo1, hmo2⟩ := hP.ob.form
  obtain ⟨Ar, mr, rfl, hmr1, hmr2⟩ := hP.rg.form
  unfold maxLen at hmo2 hmr2
  obtain ⟨w1, e1, hb1, hs1, X⟩ := bp_new w a b c d e f g h n (.slice Ao lo.length mo_) s (.slice Ar lr.length mr) pg pk 30
  have HE := hide e1
  have HB1 := hide hb1
  have HX := hide X
  have HP := hide (hP.below hb1)
  have HEn := hide (hE.below hb1)
  have HBC := hide (Below.refl w1.heap.size w1)
  have HS := hide hs
  have HR := hide hR
  have K1 := hide k1
  have HT := hide (show pText (⟨a, b, c, d, e, f, g, h, n, lo, s, lr, lp, lk⟩ : Pq) = [] by unfold pText; rw [if_neg (by rw [k1]; exact Bool.noConfusion)])
  clear e1 hb1 hs1 X hP hs hR hE k1
  obtain ⟨x0, x1, x2, x3, x4, x5, x6, x7, x8, x9, xa, xb, xc, xd⟩ := (HX.out.below HBC.out).cells
  unfold planV
  go_enter Tryz.func5, Tryz.ntmps5
  go_wp2_with fail
  rw [HE.out]
  (with_reducible refine (examples_anyPl _ (HEn.out.below HBC.out)).mono ?_)
  rintro x w10 ⟨rfl, hb⟩
  have HBC := hide (bcall HBC.out hb)
  clear hb
  clear x0 x1 x2 x3 x4 x5 x6 x7 x8 x9 xa xb xc xd
  obtain ⟨x0, x1, x2, x3, x4, x5, x6, x7, x8, x9, xa, xb, xc, xd⟩ := (HX.out.below HBC.out).cells
  go_wp2_with fail
  (with_reducible refine (pRight_c a b c d e f g h n (.slice Ao lo.length mo_) s (.slice Ar lr.length mr) pg pk lo lr lp lk _ HS.out (HP.out.below HBC.out) false K1.out).mono ?_)
  rintro x w11 ⟨rfl, hb⟩
  have HBC := hide (bcall HBC.out hb)
  clear hb
  clear x0 x1 x2 x3 x4 x5 x6 x7 x8 x9 xa xb xc xd
  obtain ⟨x0, x1, x2, x3, x4, x5, x6, x7, x8, x9, xa, xb, xc, xd⟩ := (HX.out.below HBC.out).cells
  go_wp2_with fail
  (with_reducible refine (pText_any a b c d e f g h n (.slice Ao lo.length mo_) s (.slice Ar lr.length mr) pg pk lo lr lp lk _ HS.out (HP.out.below HBC.out) (HEn.out.below HBC.out) [] HT.out).mono ?_)
  rintro x w12 ⟨rfl, hb⟩
  have HBC := hide (bcall HBC.out hb)
  clear hb
  clear x0 x1 x2 x3 x4 x5 x6 x7 x8 x9 xa xb xc xd
  go_wp2
  go_ret
  exact ⟨rfl, bcall HB1.out HBC.out⟩
set_option maxRecDepth 100000 in
set_option maxHeartbeats 16000000 in
theorem greysW_t (a b c d e f g h n : Int) (ob : Value) (s : Nat) (rg pg pk : Value) (lo lr : Rws) (lp : List (List Oq)) (lk : List PP) (w : World) (hP : PlanR w ob rg pg pk (⟨a, b, c, d, e, f, g, h, n, lo, s, lr, lp, lk⟩ : Pq)) (hs : s < 18446744073709551616) (hR : Rng lr) (hE : EnvP w) (k1 : pRight (⟨a, b, c, d, e, f, g, h, n, lo, s, lr, lp, lk⟩ : Pq) = true) :
    Calls Tryz.prog 5 #[planV a b c d e f g h n ob s rg pg pk] w fun x w' => x = .returned (.bool true) ∧ Below w.heap.size w w' := by
  obtain ⟨Ao, mo_, rfl, hmo1, hmo2⟩ := hP.ob.form
  obtain ⟨Ar, mr, rfl, hmr1, hmr2⟩ := hP.rg.form
  unfold maxLen at hmo2 hmr2
  obtain ⟨w1, e1, hb1, hs1, X⟩ := bp_new w a b c d e f g h n (.slice Ao lo.length mo_) s (.slice Ar lr.length mr) pg pk 30
  have HE := hide e1
  have HB1 := hide hb1
  have HX := hide X
  have HP := hide (hP.below hb1)
  have HEn := hide (hE.below hb1)
  have HBC := hide (Below.refl w1.heap.size w1)
  have HS := hide hs
  have HR := hide hR
  have hp := pRight_iff.1 k1
  have K1 := hide k1
  have HPR := hide hp
  obtain ⟨G, hG⟩ : ∃ G, grF s lr lr.length = G := ⟨_, rfl⟩
  obtain ⟨Vv, hV⟩ : ∃ V, fromF lo (grF s lr lr.length) = V := ⟨_, rfl⟩
  obtain ⟨Fn, hF⟩ : ∃ N, firstF lo.length = N := ⟨_, rfl⟩
  obtain ⟨Bn, hB⟩ : ∃ r, wrap64 (wrap64 (f + a) + b) = r := ⟨_, rfl⟩
  obtain ⟨Cn, hC⟩ : ∃ c, cntF G = c := ⟨_, rfl⟩
  have eG : pGreys (⟨a, b, c, d, e, f, g, h, n, lo, s, lr, lp, lk⟩ : Pq) = G := by rw [← hG]; unfold grF; rw [List.take_length]; rfl
  have eV : pLive (⟨a, b, c, d, e, f, g, h, n, lo, s, lr, lp, lk⟩ : Pq) = Vv := by rw [← hV, hG, ← eG]; rfl
  have U1 := hide (show underF s G = true by rw [← eG]; exact roots_grey (p := (⟨a, b, c, d, e, f, g, h, n, lo, s, lr, lp, lk⟩ : Pq)) hs)
  have U2 := hide (show underF G Vv = true by rw [← eG, ← eV]; exact grey_live hp hs)
  have U3 := hide (show underF Vv Fn = true by rw [← eV, ← hF]; exact live_first (p := (⟨a, b, c, d, e, f, g, h, n, lo, s, lr, lp, lk⟩ : Pq)) hs)
  have hBC : (decide (Bn > (Cn : Int))) = true := by
    have hr := hp.rng
    have hm := hp.most
    unfold pRng at hr
    have := cnt_grey hp hs
    rw [eG, hC] at this
    unfold pBins at this
    dsimp only at this hr hm
    have hw : wrap64 (wrap64 (f + a) + b) = f + a + b := by unfold wrap64; omega
    rw [decide_eq_true_eq, ← hB, hw]; omega
  have LG := hide (show G < 18446744073709551616 by rw [← hG]; exact grF_lt hs _ _)
  have LV := hide (show Vv < 18446744073709551616 by rw [← eV]; exact live_lt (p := (⟨a, b, c, d, e, f, g, h, n, lo, s, lr, lp, lk⟩ : Pq)) hs)
  have LF := hide (show Fn < 18446744073709551616 by rw [← hF]; exact first_lt _)
  have DL := hide (show ∀ o k : Int, hasF Vv o = true → hasS lo o k = true → 0 < getF lo o k → hasF Vv (getF lo o k) = true from fun o k h1 h2 h3 => by rw [← eV] at h1 ⊢; exact live_shut hp hs h1 h2 h3)
  have DG := hide (show ∀ r ∈ lr, ∀ x ∈ r, 0 < x → hasF G x = true from fun r hr x hx h0 => by rw [← eG]; exact grey_reg hp hr hx h0)
  have HN := hide (right_len hp.hp)
  have HRG := hide hR
  have HG := hide hG
  have HV := hide hV
  have HF := hide hF
  have HBn := hide hB
  have HC := hide hC
  have HBCm := hide hBC
  have LN := hide (show lo.length ≤ 64 from right_ob hp)
  clear e1 hb1 hs1 X hP hs hR hE k1 hp hG hV hF hB hC eG eV hBC
  obtain ⟨x0, x1, x2, x3, x4, x5, x6, x7, x8, x9, xa, xb, xc, xd⟩ := (HX.out.below HBC.out).cells
  unfold planV
  go_enter Tryz.func5, Tryz.ntmps5
  go_wp2_with fail
  rw [HE.out]
  (with_reducible refine (examples_anyPl _ (HEn.out.below HBC.out)).mono ?_)
  rintro x w13 ⟨rfl, hb⟩
  have HBC := hide (bcall HBC.out hb)
  clear hb
  clear x0 x1 x2 x3 x4 x5 x6 x7 x8 x9 xa xb xc xd
  obtain ⟨x0, x1, x2, x3, x4, x5, x6, x7, x8, x9, xa, xb, xc, xd⟩ := (HX.out.below HBC.out).cells
  go_wp2_with fail
  (with_reducible refine (pRight_c a b c d e f g h n (.slice Ao lo.length mo_) s (.slice Ar lr.length mr) pg pk lo lr lp lk _ HS.out (HP.out.below HBC.out) true K1.out).mono ?_)
  rintro x w14 ⟨rfl, hb⟩
  have HBC := hide (bcall HBC.out hb)
  clear hb
  clear x0 x1 x2 x3 x4 x5 x6 x7 x8 x9 xa xb xc xd
  obtain ⟨x0, x1, x2, x3, x4, x5, x6, x7, x8, x9, xa, xb, xc, xd⟩ := (HX.out.below HBC.out).cells
  go_wp2_with fail
  (with_reducible refine (pGreys_c a b c d e f g h n (.slice Ao lo.length mo_) s (.slice Ar lr.length mr) pg pk lr _ HS.out (HP.out.rg.below HBC.out) HR.out G HG.out).mono ?_)
  rintro x w15 ⟨rfl, hb⟩
  have HBC := hide (bcall HBC.out hb)
  clear hb
  clear x0 x1 x2 x3 x4 x5 x6 x7 x8 x9 xa xb xc xd
  obtain ⟨x0, x1, x2, x3, x4, x5, x6, x7, x8, x9, xa, xb, xc, xd⟩ := (HX.out.below HBC.out).cells
  go_wp2_with fail
  (with_reducible refine (pLive_c a b c d e f g h n (.slice Ao lo.length mo_) s (.slice Ar lr.length mr) pg pk lo lr _ HS.out (HP.out.rg.below HBC.out) HR.out (HP.out.ob.below HBC.out) (HEn.out.below HBC.out).t Vv HV.out).mono ?_)
  rintro x w16 ⟨rfl, hb⟩
  have HBC := hide (bcall HBC.out hb)
  clear hb
  clear x0 x1 x2 x3 x4 x5 x6 x7 x8 x9 xa xb xc xd
  obtain ⟨x0, x1, x2, x3, x4, x5, x6, x7, x8, x9, xa, xb, xc, xd⟩ := (HX.out.below HBC.out).cells
  go_wp2_with fail
  (with_reducible refine (First_n lo.length _ (by omega) Fn HF.out).mono ?_)
  rintro x w20 ⟨rfl, hw⟩
  obtain rfl := hw.symm
  go_wp2
  clear x0 x1 x2 x3 x4 x5 x6 x7 x8 x9 xa xb xc xd
  go_loopw [7, 8, 9, 10] (fun ov _ _ _ wr => ∃ o : Nat, 1 ≤ o ∧ o ≤ lo.length + 1 ∧ ov = .int .i64 o ∧ Hid (Below w1.heap.size w1 wr)) (fun ov _ _ _ _ => lo.length + 1 - (Go.RowKit.intOf ov).toNat)
  case atStart => exact ⟨1, by omega, by omega, by simp, HBC⟩
  case round =>
    clear HBC
    obtain ⟨o, ho0, ho1, rfl, HBC⟩ := hrel
    have LL := LN.out
    obtain ⟨x0, x1, x2, x3, x4, x5, x6, x7, x8, x9, xa, xb, xc, xd⟩ := (HX.out.below HBC.out).cells
    by_cases hlt : o ≤ lo.length
    · have hle : decide ((o : Int) ≤ (lo.length : Int)) = true := decide_eq_true (by omega)
      go_wp2
      clear x0 x1 x2 x3 x4 x5 x6 x7 x8 x9 xa xb xc xd
      go_loopw [8, 9, 10] (fun kv _ _ wq => ∃ k : Int, 0 ≤ k ∧ k ≤ n ∧ kv = .int .i64 k ∧ Hid (Below w1.heap.size w1 wq)) (fun kv _ _ _ => (n - Go.RowKit.intOf kv).toNat)
      case atStart => have := HN.out; exact ⟨0, by omega, by omega, rfl, HBC⟩
      case round =>
        clear HBC
        obtain ⟨k, hk0, hk1, rfl, HBC⟩ := hrel
        have NN := HN.out
        obtain ⟨x0, x1, x2, x3, x4, x5, x6, x7, x8, x9, xa, xb, xc, xd⟩ := (HX.out.below HBC.out).cells
        by_cases hkn : k < n
        · have hhs := hide (slot_has (n := n) (ls := lo) HPR.out.hp (o := (o : Int)) (k := k) (by omega) (by omega))
          obtain ⟨hg0, hg1⟩ := get_in (ls := lo) HPR.out.hp (o : Int) k
          obtain ⟨y, hy⟩ : ∃ y, getF lo (o : Int) k = y := ⟨_, rfl⟩
          have HY := hide hy
          have HD := hide (DL.out (o : Int) k)
          rw [hy] at HD hg0 hg1
          clear hy
          go_wp2_with fail
          (with_reducible refine (Get_c n _ lo (o : Int) k _ (HP.out.ob.below HBC.out) y HY.out true hhs.out).mono ?_)
          rintro x w21 ⟨rfl, hb⟩
          have HBC := hide (bcall HBC.out hb)
          clear hb
          clear x0 x1 x2 x3 x4 x5 x6 x7 x8 x9 xa xb xc xd
          obtain ⟨x0, x1, x2, x3, x4, x5, x6, x7, x8, x9, xa, xb, xc, xd⟩ := (HX.out.below HBC.out).cells
          cases q1 : hasF Vv (o : Int)
          · have Q1 := hide q1
            clear q1
            go_wp2_with fail
            (with_reducible refine (Has_any Vv (o : Int) _ LV.out (by omega) (by omega)).mono ?_)
            rintro x w22 ⟨rfl, hw⟩
            obtain rfl := hw.symm
            rw [Q1.out]
            go_wp2
            go_roundw
            case rel => exact ⟨k + 1, by omega, by omega, by go_num, HBC⟩
            case measure => simp [Go.RowKit.intOf]; omega
          · have Q1 := hide q1
            clear q1
            by_cases hy0 : 0 < y
            · have Q2 := hide (HD.out Q1.out hhs.out hy0)
              have hyd : decide (y > 0) = true := decide_eq_true hy0
              clear hy0
              go_wp2_with fail
              (with_reducible refine (Has_any Vv (o : Int) _ LV.out (by omega) (by omega)).mono ?_)
              rintro x w22 ⟨rfl, hw⟩
              obtain rfl := hw.symm
              rw [Q1.out]
              go_wp2_with fail
              (with_reducible refine (Has_any Vv y _ LV.out (by omega) (by omega)).mono ?_)
              rintro x w23 ⟨rfl, hw⟩
              obtain rfl := hw.symm
              rw [Q2.out]
              go_wp2
              go_roundw
              case rel => exact ⟨k + 1, by omega, by omega, by go_num, HBC⟩
              case measure => simp [Go.RowKit.intOf]; omega
            · have hyd : decide (y > 0) = false := decide_eq_false hy0
              go_wp2_with fail
              (with_reducible refine (Has_any Vv (o : Int) _ LV.out (by omega) (by omega)).mono ?_)
              rintro x w22 ⟨rfl, hw⟩
              obtain rfl := hw.symm
              rw [Q1.out]
              go_wp2
              go_roundw
              case rel => exact ⟨k + 1, by omega, by omega, by go_num, HBC⟩
              case measure => simp [Go.RowKit.intOf]; omega
        · go_wp2
          go_roundw
          case rel => exact ⟨o + 1, by omega, by omega, by go_num, HBC⟩
          case measure => simp [Go.RowKit.intOf]; omega
    · have hle : decide ((o : Int) ≤ (lo.length : Int)) = false := decide_eq_false (by omega)
      go_wp2
      clear x0 x1 x2 x3 x4 x5 x6 x7 x8 x9 xa xb xc xd
      go_loopw [11, 12] (fun iv _ wr => ∃ i : Nat, i ≤ lr.length ∧ iv = .int .i64 i ∧ Hid (Below w1.heap.size w1 wr)) (fun iv _ _ => lr.length - (Go.RowKit.intOf iv).toNat)
      case atStart => exact ⟨0, by omega, rfl, HBC⟩
      case round =>
        clear HBC
        obtain ⟨i, hi, rfl, HBC⟩ := hrel
        obtain ⟨x0, x1, x2, x3, x4, x5, x6, x7, x8, x9, xa, xb, xc, xd⟩ := (HX.out.below HBC.out).cells
        by_cases hli : i < lr.length
        · obtain ⟨br, orr, ur, rfl, -, cr0, rr⟩ := grid_at HP.out.rg hli
          have RD := hide (DG.out lr[i] (List.getElem_mem hli))
          have RN := hide (HRG.out lr[i] (List.getElem_mem hli))
          generalize lr[i] = l at *
          obtain ⟨Al, ml, rfl, hml1, hml2, -⟩ := id rr
          unfold maxLen at hml2
          have RR := hide rr
          have CR := hide cr0
          clear rr cr0
          have cr := keepcHp HBC.out CR.out
          go_wp2
          clear x0 x1 x2 x3 x4 x5 x6 x7 x8 x9 xa xb xc xd
          clear cr
          go_loopw [12] (fun kv wq => ∃ k : Nat, k ≤ l.length ∧ kv = .int .i64 k ∧ Hid (Below w1.heap.size w1 wq)) (fun kv _ => l.length - (Go.RowKit.intOf kv).toNat)
          case atStart => exact ⟨0, by omega, rfl, HBC⟩
          case round =>
            clear HBC
            obtain ⟨k, hk, rfl, HBC⟩ := hrel
            obtain ⟨x0, x1, x2, x3, x4, x5, x6, x7, x8, x9, xa, xb, xc, xd⟩ := (HX.out.below HBC.out).cells
            have cr := keepcHp HBC.out CR.out
            by_cases hlk : k < l.length
            · obtain ⟨bl, ol, rfl, -, c0⟩ := ints_at (RR.out.below HBC.out) hlk
              have hyg := RD.out l[k] (List.getElem_mem hlk)
              obtain ⟨hr0, hr1⟩ := RN.out l[k] (List.getElem_mem hlk)
              generalize l[k] = y at *
              by_cases hy0 : 0 < y
              · have Q2 := hide (hyg hy0)
                have hyd : decide (y > 0) = true := decide_eq_true hy0
                clear hy0 hyg
                go_wp2_with fail
                (with_reducible refine (Has_any G y _ LG.out hr0 hr1).mono ?_)
                rintro x w23 ⟨rfl, hw⟩
                obtain rfl := hw.symm
                rw [Q2.out]
                go_wp2
                go_roundw
                case rel => exact ⟨k + 1, by omega, by go_num, HBC⟩
                case measure => simp [Go.RowKit.intOf]; omega
              · have hyd : decide (y > 0) = false := decide_eq_false hy0
                clear hyg
                go_wp2
                go_roundw
                case rel => exact ⟨k + 1, by omega, by go_num, HBC⟩
                case measure => simp [Go.RowKit.intOf]; omega
            · go_wp2
              go_roundw
              case rel => exact ⟨i + 1, by omega, by go_num, HBC⟩
              case measure => simp [Go.RowKit.intOf]; omega
        · go_wp2_with fail
          (with_reducible refine (Under_any s G _ HS.out LG.out).mono ?_)
          rintro x w30 ⟨rfl, hw⟩
          obtain rfl := hw.symm
          rw [U1.out]
          go_wp2_with fail
          (with_reducible refine (Under_any G Vv _ LG.out LV.out).mono ?_)
          rintro x w31 ⟨rfl, hw⟩
          obtain rfl := hw.symm
          rw [U2.out]
          go_wp2_with fail
          (with_reducible refine (Under_any Vv Fn _ LV.out LF.out).mono ?_)
          rintro x w32 ⟨rfl, hw⟩
          obtain rfl := hw.symm
          rw [U3.out]
          go_wp2_with fail
          (with_reducible refine (pBins_c a b c d e f g h n (.slice Ao lo.length mo_) s (.slice Ar lr.length mr) pg pk _ Bn HBn.out).mono ?_)
          rintro x w33 ⟨rfl, hb⟩
          have HBC := hide (bcall HBC.out hb)
          have hcm := HBCm.out
          clear hb x0 x1 x2 x3 x4 x5 x6 x7 x8 x9 xa xb xc xd
          go_wp2_with fail
          (with_reducible refine (Count_n G _ LG.out Cn HC.out).mono ?_)
          rintro x w34 ⟨rfl, hw⟩
          obtain rfl := hw.symm
          go_wp2
          go_ret
          exact ⟨rfl, bcall HB1.out HBC.out⟩
end Go.Proofs.YtjnokhaojpijhaaGreatDoor
