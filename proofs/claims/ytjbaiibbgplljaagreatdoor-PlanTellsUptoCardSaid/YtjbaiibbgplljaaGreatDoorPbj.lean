import Derived.Test.YtjbaiibbgplljaaGreatDoorPbg
import Derived.Test.YtjbaiibbgplljaaGreatDoorPbi
set_option maxRecDepth 100000
set_option maxHeartbeats 40000000
namespace Go.Proofs.YtjbaiibbgplljaaGreatDoor
open Go.RowKit Go.Joins
theorem fieldsRpo : Tryz.prog.underlying 81 = some (.struct (Tryz.prog.fieldsOf 81)) := by kernel_rfl
theorem eqIn_rpo (a b c d a' b' c' d' : Int) (w : World) : (Op.equalIn 10000 81 (qv a b c d) (qv a' b' c' d')).run Tryz.prog w = .ok (decide ((⟨a, b, c, d⟩ : Oq) = ⟨a', b', c', d'⟩)) w := by
 rw [run_equalIn_agg w 9999 _ _ _ fieldsRpo Tryz.stoodInHeld81]; have hf : (Tryz.prog.fieldsOf 81).toList = [⟨ "Kind", 3, 0, false, "", "", 0⟩, ⟨ "R", 3, 1, false, "", "", 8⟩, ⟨ "A", 3, 2, false, "", "", 16⟩, ⟨ "S", 3, 3, false, "", "", 24⟩] := by kernel_rfl
 rw [hf]; by_cases h : a = a' <;> by_cases h1 : b = b' <;> by_cases h2 : c = c' <;> by_cases h3 : d = d' <;> simp [Op.eqFields, go_sem, h, h1, h2, h3]
theorem neq_rpo (a b c d a' b' c' d' : Int) (w : World) : (binOp .neq 81 (qv a b c d) (qv a' b' c' d')).run Tryz.prog w = .ok (.bool (!decide ((⟨a, b, c, d⟩ : Oq) = ⟨a', b', c', d'⟩))) w := by
 rw [run_neq_struct, eqIn_rpo]; rfl
theorem fieldsRpk : Tryz.prog.underlying 83 = some (.struct (Tryz.prog.fieldsOf 83)) := by kernel_rfl
theorem eqIn_rpk (a b c d : Int) (w : World) : (Op.equalIn 10000 83 (.agg #[.int .i64 a, .int .i64 b]) (.agg #[.int .i64 c, .int .i64 d])).run Tryz.prog w = .ok (a == c && b == d) w := by
 rw [run_equalIn_agg w 9999 _ _ _ fieldsRpk Tryz.stoodInHeld83]; have hf : (Tryz.prog.fieldsOf 83).toList = [⟨ "Kind", 3, 0, false, "", "", 0⟩, ⟨ "N", 3, 1, false, "", "", 8⟩] := by kernel_rfl
 rw [hf]; by_cases h : a = c <;> by_cases h' : b = d <;> simp [Op.eqFields, go_sem, h, h']
theorem neq_rpk (a b c d : Int) (w : World) : (binOp .neq 83 (.agg #[.int .i64 a, .int .i64 b]) (.agg #[.int .i64 c, .int .i64 d])).run Tryz.prog w = .ok (.bool (!(a == c && b == d))) w := by
 rw [run_neq_struct, eqIn_rpk]; rfl
theorem pq_no {p q : Pq} {r : Bool} (hr : Hid (decide (p = q) = r)) (h : ¬ p = q) : Hid (r = false) := hide (hr.out.symm.trans (decide_eq_false h))
theorem take_eq {α : Type} {l m : List α} {i : Nat} (h1 : i < l.length) (h2 : i < m.length) (h : l.take i = m.take i) (e : l[i] = m[i]) : l.take (i + 1) = m.take (i + 1) := by
 rw [List.take_succ_eq_append_getElem h1, List.take_succ_eq_append_getElem h2, h, e]
theorem take_allPl {α : Type} {l m : List α} {i : Nat} (hi : ¬ i < l.length) (hl : l.length = m.length) (h : l.take i = m.take i) : l = m := by
 rwa [List.take_of_length_le (by omega), List.take_of_length_le (by omega)] at h
theorem rpSame_any (a b c d e f g h n : Int) (ob : Value) (s : Nat) (rg pg pk : Value) (lo lr : Rws) (lp : List (List Oq)) (lk : List PP) (a' b' c' d' e' f' g' h' n' : Int) (ob' : Value) (s' : Nat) (rg' pg' pk' : Value) (lo' lr' : Rws) (lp' : List (List Oq)) (lk' : List PP) (w : World) (hp : PlanR w ob rg pg pk (⟨a, b, c, d, e, f, g, h, n, lo, s, lr, lp, lk⟩ : Pq)) (hq : PlanR w ob' rg' pg' pk' (⟨a', b', c', d', e', f', g', h', n', lo', s', lr', lp', lk'⟩ : Pq)) (r : Bool) (hr : decide ((⟨a, b, c, d, e, f, g, h, n, lo, s, lr, lp, lk⟩ : Pq) = (⟨a', b', c', d', e', f', g', h', n', lo', s', lr', lp', lk'⟩ : Pq)) = r) :
 Calls Tryz.prog 7 #[planV a b c d e f g h n ob s rg pg pk, planV a' b' c' d' e' f' g' h' n' ob' s' rg' pg' pk'] w fun x w' => x = .returned (.bool r) ∧ Below w.heap.size w w' := by
 obtain ⟨Ar, mr, rfl, hr1, hr2⟩ := hp.rg.form; obtain ⟨Ap, mp, rfl, hp1, hp2⟩ := hp.pg.form; obtain ⟨Ak, mk, rfl, hk1, hk2, -⟩ := id hp.pk; obtain ⟨Br, nr, rfl, hr3, hr4⟩ := hq.rg.form; obtain ⟨Bp_, np, rfl, hp3, hp4⟩ := hq.pg.form; obtain ⟨Bk_, nk, rfl, hk3, hk4, -⟩ := id hq.pk; dsimp only at hr1 hr2 hp1 hp2 hk1 hk2 hr3 hr4 hp3 hp4 hk3 hk4; unfold maxLen at hr2 hp2 hk2 hr4 hp4 hk4; obtain ⟨w1, E1, hb1, hs1, X⟩ := bp_new w a b c d e f g h n ob s (.slice Ar lr.length mr) (.slice Ap lp.length mp) (.slice Ak lk.length mk) 40; obtain ⟨w2, E2, hb2, hs2, Y⟩ := bp_new w1 a' b' c' d' e' f' g' h' n' ob' s' (.slice Br lr'.length nr) (.slice Bp_ lp'.length np) (.slice Bk_ lk'.length nk) 40; rw [hs1] at Y; rw [← E1] at E2; have HE := hide E2; have hb12 := bcall hb1 hb2; have HB2 := hide hb12; have HX := hide (X.below hb2); have HY := hide Y; have HP := hide (hp.below hb12); have HQ := hide (hq.below hb12); have HRR := hide hr; clear E1 E2 hb1 hb2 hs1 hs2 X Y hb12 hp hq hr; unfold planV; obtain ⟨x0, x1, x2, x3, x4, x5, x6, x7, x8, x9, xa, xb, xc, xd⟩ := HX.out.cells; obtain ⟨y0, y1, y2, y3, y4, y5, y6, y7, y8, y9, ya, yb, yc, yd⟩ := HY.out.cells; go_enter Tryz.func7, Tryz.ntmps7
 go_upto_region 1 with (fail)
 rw [HE.out]; by_cases k0 : a = a'
 rotate_left
 · as_aux_lemma =>
    have HF := pq_no HRR fun z => k0 (congrArg Pq.wk z)
    have q1 : (a != a') = true := by rw [bne_iff_ne]; exact k0
    clear k0; go_wp2; go_ret
    exact ⟨ret_bool HF.out.symm, HB2.out⟩
 subst k0; by_cases k1 : b = b'
 rotate_left
 · as_aux_lemma =>
    have HF := pq_no HRR fun z => k1 (congrArg Pq.mu z)
    have q1 : (b != b') = true := by rw [bne_iff_ne]; exact k1
    clear k1; go_wp2; go_ret
    exact ⟨ret_bool HF.out.symm, HB2.out⟩
 subst k1; by_cases k2 : c = c'
 rotate_left
 · as_aux_lemma =>
    have HF := pq_no HRR fun z => k2 (congrArg Pq.cp z)
    have q1 : (c != c') = true := by rw [bne_iff_ne]; exact k2
    clear k2; go_wp2; go_ret
    exact ⟨ret_bool HF.out.symm, HB2.out⟩
 subst k2; by_cases k3 : d = d'
 rotate_left
 · as_aux_lemma =>
    have HF := pq_no HRR fun z => k3 (congrArg Pq.bf z)
    have q1 : (d != d') = true := by rw [bne_iff_ne]; exact k3
    clear k3; go_wp2; go_ret
    exact ⟨ret_bool HF.out.symm, HB2.out⟩
 subst k3; by_cases k4 : e = e'
 rotate_left
 · as_aux_lemma =>
    have HF := pq_no HRR fun z => k4 (congrArg Pq.bn z)
    have q1 : (e != e') = true := by rw [bne_iff_ne]; exact k4
    clear k4; go_wp2; go_ret
    exact ⟨ret_bool HF.out.symm, HB2.out⟩
 subst k4; by_cases k5 : f = f'
 rotate_left
 · as_aux_lemma =>
    have HF := pq_no HRR fun z => k5 (congrArg Pq.mo z)
    have q1 : (f != f') = true := by rw [bne_iff_ne]; exact k5
    clear k5; go_wp2; go_ret
    exact ⟨ret_bool HF.out.symm, HB2.out⟩
 subst k5; by_cases k6 : g = g'
 rotate_left
 · as_aux_lemma =>
    have HF := pq_no HRR fun z => k6 (congrArg Pq.pr z)
    have q1 : (g != g') = true := by rw [bne_iff_ne]; exact k6
    clear k6; go_wp2; go_ret
    exact ⟨ret_bool HF.out.symm, HB2.out⟩
 subst k6; by_cases k7 : h = h'
 rotate_left
 · as_aux_lemma =>
    have HF := pq_no HRR fun z => k7 (congrArg Pq.li z)
    have q1 : (h != h') = true := by rw [bne_iff_ne]; exact k7
    clear k7; go_wp2; go_ret
    exact ⟨ret_bool HF.out.symm, HB2.out⟩
 subst k7; by_cases k8 : s = s'
 rotate_left
 · as_aux_lemma =>
    have HF := pq_no HRR fun z => k8 (congrArg Pq.ro z)
    have q1 : ((s : Int) != (s' : Int)) = true := by rw [bne_iff_ne]; omega
    clear k8; go_wp2; go_ret
    exact ⟨ret_bool HF.out.symm, HB2.out⟩
 subst k8; go_wp2_with fail
 cases k9 : sameF n lo n' lo'
 · as_aux_lemma =>
    have K9 := hide k9; have HF := pq_no HRR fun z => by have z1 := congrArg Pq.sl z; have z2 := congrArg Pq.ob z; dsimp only at z1 z2; subst z1 z2; have := K9.out; rw [same_reflRf] at this; cases this
    clear k9; (with_reducible refine (rSame_cRf n n' ob ob' lo lo' _ HP.out.ob HQ.out.ob _ K9.out).mono ?_); rintro z w3 ⟨rfl, hb3⟩; go_wp2; go_ret
    exact ⟨ret_bool HF.out.symm, bcall HB2.out hb3⟩
 have K9 := hide k9; clear k9; (with_reducible refine (rSame_cRf n n' ob ob' lo lo' _ HP.out.ob HQ.out.ob _ K9.out).mono ?_); rintro z w3 ⟨rfl, hb3⟩; have HB3 := hide (bcall HB2.out hb3); have HX3 := hide (HX.out.below hb3); have HY3 := hide (HY.out.below hb3); have HP3 := hide (HP.out.below hb3); have HQ3 := hide (HQ.out.below hb3); clear x0 x1 x2 x3 x4 x5 x6 x7 x8 x9 xa xb xc xd y0 y1 y2 y3 y4 y5 y6 y7 y8 y9 ya yb yc yd HB2 HX HY HP HQ HE hb3; obtain ⟨x0, x1, x2, x3, x4, x5, x6, x7, x8, x9, xa, xb, xc, xd⟩ := HX3.out.cells; obtain ⟨y0, y1, y2, y3, y4, y5, y6, y7, y8, y9, ya, yb, yc, yd⟩ := HY3.out.cells; clear x0 x1 x2 x3 x4 x5 x6 x7 x8 x9 xa y0 y1 y2 y3 y4 y5 y6 y7 y8 y9 ya; by_cases k10 : lr.length = lr'.length
 rotate_left
 · as_aux_lemma =>
    have HF := pq_no HRR fun z => by have z1 := congrArg (fun x => (Pq.rg x).length) z; exact k10 z1
    have q1 : ((lr.length : Int) != (lr'.length : Int)) = true := by rw [bne_iff_ne]; omega
    clear k10; go_wp2; go_ret
    exact ⟨ret_bool HF.out.symm, HB3.out⟩
 have m0 : ((lr.length : Int) != (lr'.length : Int)) = false := by rw [bne_eq_false_iff_eq]; omega
 have M0 := hide k10; clear k10; by_cases k11 : lp.length = lp'.length
 rotate_left
 · as_aux_lemma =>
    have HF := pq_no HRR fun z => by have z1 := congrArg (fun x => (Pq.pg x).length) z; exact k11 z1
    have q1 : ((lp.length : Int) != (lp'.length : Int)) = true := by rw [bne_iff_ne]; omega
    clear k11; go_wp2; go_ret
    exact ⟨ret_bool HF.out.symm, HB3.out⟩
 have m1 : ((lp.length : Int) != (lp'.length : Int)) = false := by rw [bne_eq_false_iff_eq]; omega
 have M1 := hide k11; clear k11; by_cases k12 : lk.length = lk'.length
 rotate_left
 · as_aux_lemma =>
    have HF := pq_no HRR fun z => by have z1 := congrArg (fun x => (Pq.pk x).length) z; exact k12 z1
    have q1 : ((lk.length : Int) != (lk'.length : Int)) = true := by rw [bne_iff_ne]; omega
    clear k12; go_wp2; go_ret
    exact ⟨ret_bool HF.out.symm, HB3.out⟩
 have m2 : ((lk.length : Int) != (lk'.length : Int)) = false := by rw [bne_eq_false_iff_eq]; omega
 have M2 := hide k12; clear k12; go_wp2; clear m0 m1 m2; go_loopw [5] (fun iv wr => ∃ i : Nat, i ≤ lr.length ∧ iv = .int .i64 i ∧ Hid (Below w3.heap.size w3 wr) ∧ Hid (lr.take i = lr'.take i)) (fun iv _ => lr.length - (intOf iv).toNat)
 case atStart => exact ⟨0, Nat.zero_le _, rfl, hide (Below.refl _ _), hide (by simp)⟩
 case round =>
  obtain ⟨i, hi, rfl, HB, HT⟩ := hrel; have xx := keepcHp HB.out xb; have yy := keepcHp HB.out yb; by_cases hlt : i < lr.length
  · have hlt' : i < lr'.length := by have := M0.out; omega
    obtain ⟨gb, goff, U, rfl, -, gc, gi⟩ := grid_at HP3.out.rg hlt; obtain ⟨kb, koff, V, rfl, -, kc, ki⟩ := grid_at HQ3.out.rg hlt'; have HTK := hide (fun e => take_eq hlt hlt' HT.out e); have HNO := hide (show ¬ lr[i] = lr'[i] → ¬ (⟨a, b, c, d, e, f, g, h, n, lo, s, lr, lp, lk⟩ : Pq) = (⟨a, b, c, d, e, f, g, h, n', lo', s, lr', lp', lk'⟩ : Pq) from fun hne z => hne (by have z1 := congrArg Pq.rg z; dsimp only at z1; subst z1; rfl)); generalize lr[i] = R at *; generalize lr'[i] = R' at *; obtain ⟨Ai, ci, rfl, hi1, hi2, -⟩ := id gi; obtain ⟨Bi, di, rfl, hi3, hi4, -⟩ := id ki; unfold maxLen at hi2 hi4; have HGC := hide gc; have HKC := hide kc; have HGI := hide gi; have HKI := hide ki; clear gc kc gi ki; have gg := keepcHp HB.out HGC.out; have kk := keepcHp HB.out HKC.out; by_cases hln : R.length = R'.length
    rotate_left
    · as_aux_lemma =>
       have HF := pq_no HRR (HNO.out fun z => hln (congrArg List.length z)); have q1 : ((R.length : Int) != (R'.length : Int)) = true := by rw [bne_iff_ne]; omega
       clear hln; go_wp2; go_quiet (fail); go_wp2; go_ret
       exact ⟨ret_bool HF.out.symm, bcall HB3.out (bdrewN HB.out _)⟩
    have q1 : ((R.length : Int) != (R'.length : Int)) = false := by rw [bne_eq_false_iff_eq]; omega
    have HLN := hide hln; clear hln; go_wp2; go_quiet (fail); go_wp2; clear q1 gg kk xx yy; go_loopw [6] (fun kv wr2 => ∃ k : Nat, k ≤ R.length ∧ kv = .int .i64 k ∧ Hid (Below w3.heap.size w3 wr2) ∧ Hid (R.take k = R'.take k)) (fun kv _ => R.length - (intOf kv).toNat)
    case atStart => exact ⟨0, Nat.zero_le _, rfl, hide (bdrewN HB.out _), hide (by simp)⟩
    case round =>
     obtain ⟨k, hk, rfl, HB4, HT4⟩ := hrel; have xx := keepcHp HB4.out xb; have yy := keepcHp HB4.out yb; have gg := keepcHp HB4.out HGC.out; have kk := keepcHp HB4.out HKC.out; by_cases hkt : k < R.length
     · have hkt' : k < R'.length := by have := HLN.out; omega
       obtain ⟨b1, o1, rfl, -, c0⟩ := ints_at (HGI.out.below HB4.out) hkt; obtain ⟨b2, o2, rfl, -, d0⟩ := ints_at (HKI.out.below HB4.out) hkt'; by_cases he : R[k] = R'[k]
       · skip
         have HT5 := hide (take_eq hkt hkt' HT4.out he); have qq : (R[k] != R'[k]) = false := by rw [bne_eq_false_iff_eq]; exact he
         clear he; go_wp2; go_quiet (fail); go_wp2; go_roundw
         case rel => exact ⟨k + 1, by omega, by go_num, hide (bdrewN HB4.out _), HT5⟩
         case measure => simp [intOf]; omega
       · as_aux_lemma =>
         have HF := pq_no HRR (HNO.out fun z => he (by subst z; rfl)); have qq : (R[k] != R'[k]) = true := by rw [bne_iff_ne]; exact he
         clear he; go_wp2; go_quiet (fail); go_wp2; go_ret
         exact ⟨ret_bool HF.out.symm, bcall HB3.out (bdrewN HB4.out _)⟩
     · have HEQ := hide (take_allPl hkt HLN.out HT4.out)
       go_wp2; go_roundw
       case rel => exact ⟨i + 1, by omega, by go_num, HB4, hide (HTK.out HEQ.out)⟩
       case measure => simp [intOf]; omega
  · have HLLr := hide (take_allPl hlt M0.out HT.out)
    have HBO := HB; go_wp2; go_loopw [7] (fun iv wr => ∃ i : Nat, i ≤ lp.length ∧ iv = .int .i64 i ∧ Hid (Below w3.heap.size w3 wr) ∧ Hid (lp.take i = lp'.take i)) (fun iv _ => lp.length - (intOf iv).toNat)
    case atStart => exact ⟨0, Nat.zero_le _, rfl, hide HBO.out, hide (by simp)⟩
    case round =>
     obtain ⟨i, hi, rfl, HB, HT⟩ := hrel; have xx := keepcHp HB.out xc; have yy := keepcHp HB.out yc; by_cases hlt : i < lp.length
     · have hlt' : i < lp'.length := by have := M1.out; omega
       obtain ⟨gb, goff, U, rfl, -, gc, gi⟩ := gridO_at HP3.out.pg hlt; obtain ⟨kb, koff, V, rfl, -, kc, ki⟩ := gridO_at HQ3.out.pg hlt'; have HTK := hide (fun e => take_eq hlt hlt' HT.out e); have HNO := hide (show ¬ lp[i] = lp'[i] → ¬ (⟨a, b, c, d, e, f, g, h, n, lo, s, lr, lp, lk⟩ : Pq) = (⟨a, b, c, d, e, f, g, h, n', lo', s, lr', lp', lk'⟩ : Pq) from fun hne z => hne (by have z1 := congrArg Pq.pg z; dsimp only at z1; subst z1; rfl)); generalize lp[i] = R at *; generalize lp'[i] = R' at *; obtain ⟨Ai, ci, rfl, hi1, hi2, -⟩ := id gi; obtain ⟨Bi, di, rfl, hi3, hi4, -⟩ := id ki; unfold maxLen at hi2 hi4; have HGC := hide gc; have HKC := hide kc; have HGI := hide gi; have HKI := hide ki; clear gc kc gi ki; have gg := keepcHp HB.out HGC.out; have kk := keepcHp HB.out HKC.out; by_cases hln : R.length = R'.length
       rotate_left
       · as_aux_lemma =>
          have HF := pq_no HRR (HNO.out fun z => hln (congrArg List.length z)); have q1 : ((R.length : Int) != (R'.length : Int)) = true := by rw [bne_iff_ne]; omega
          clear hln; go_wp2; go_quiet (fail); go_wp2; go_ret
          exact ⟨ret_bool HF.out.symm, bcall HB3.out (bdrewN HB.out _)⟩
       have q1 : ((R.length : Int) != (R'.length : Int)) = false := by rw [bne_eq_false_iff_eq]; omega
       have HLN := hide hln; clear hln; go_wp2; go_quiet (fail); go_wp2; clear q1 gg kk xx yy; go_loopw [8] (fun kv wr2 => ∃ k : Nat, k ≤ R.length ∧ kv = .int .i64 k ∧ Hid (Below w3.heap.size w3 wr2) ∧ Hid (R.take k = R'.take k)) (fun kv _ => R.length - (intOf kv).toNat)
       case atStart => exact ⟨0, Nat.zero_le _, rfl, hide (bdrewN HB.out _), hide (by simp)⟩
       case round =>
        obtain ⟨k, hk, rfl, HB4, HT4⟩ := hrel; have xx := keepcHp HB4.out xc; have yy := keepcHp HB4.out yc; have gg := keepcHp HB4.out HGC.out; have kk := keepcHp HB4.out HKC.out; by_cases hkt : k < R.length
        · have hkt' : k < R'.length := by have := HLN.out; omega
          obtain ⟨⟨p1, p2, p3, p4⟩, z1⟩ : ∃ z, R[k] = z := ⟨_, rfl⟩; obtain ⟨⟨r1, r2, r3, r4⟩, z2⟩ : ∃ z, R'[k] = z := ⟨_, rfl⟩; obtain ⟨b1, o1, rfl, -, c0, c1, c2, c3⟩ := oq_at (HGI.out.below HB4.out) hkt z1; obtain ⟨b2, o2, rfl, -, d0, d1, d2, d3⟩ := oq_at (HKI.out.below HB4.out) hkt' z2; have hnp := neq_rpo p1 p2 p3 p4 r1 r2 r3 r4; rw [← z1, ← z2] at hnp; by_cases he : R[k] = R'[k]
          · skip
            have HT5 := hide (take_eq hkt hkt' HT4.out he); rw [decide_eq_true he] at hnp; clear he z1 z2; go_wp2; go_quiet (fail); go_wp2; go_roundw
            case rel => exact ⟨k + 1, by omega, by go_num, hide (bdrewN HB4.out _), HT5⟩
            case measure => simp [intOf]; omega
          · as_aux_lemma =>
            have HF := pq_no HRR (HNO.out fun z => he (by subst z; rfl)); rw [decide_eq_false he] at hnp; clear he z1 z2; go_wp2; go_quiet (fail); go_wp2; go_ret
            exact ⟨ret_bool HF.out.symm, bcall HB3.out (bdrewN HB4.out _)⟩
        · have HEQ := hide (take_allPl hkt HLN.out HT4.out)
          go_wp2; go_roundw
          case rel => exact ⟨i + 1, by omega, by go_num, HB4, hide (HTK.out HEQ.out)⟩
          case measure => simp [intOf]; omega
     · have HLLp := hide (take_allPl hlt M1.out HT.out)
       have HBO := HB; go_wp2; go_loopw [9] (fun iv wr => ∃ i : Nat, i ≤ lk.length ∧ iv = .int .i64 i ∧ Hid (Below w3.heap.size w3 wr) ∧ Hid (lk.take i = lk'.take i)) (fun iv _ => lk.length - (intOf iv).toNat)
       case atStart => exact ⟨0, Nat.zero_le _, rfl, HBO, hide (by simp)⟩
       case round =>
        obtain ⟨i, hi, rfl, HB, HT⟩ := hrel; have xx := keepcHp HB.out xd; have yy := keepcHp HB.out yd; by_cases hlt : i < lk.length
        · have hlt' : i < lk'.length := by have := M2.out; omega
          obtain ⟨b1, o1, rfl, -, c0, c1⟩ := picks_at (HP3.out.pk.below HB.out) hlt; obtain ⟨b2, o2, rfl, -, d0, d1⟩ := picks_at (HQ3.out.pk.below HB.out) hlt'; have hnp := neq_rpk (lk[i]).1 (lk[i]).2 (lk'[i]).1 (lk'[i]).2; by_cases he : lk[i] = lk'[i]
          · have q1 : ((lk[i]).1 == (lk'[i]).1 && (lk[i]).2 == (lk'[i]).2) = true := by rw [he]; simp
            rw [q1] at hnp; have HT5 := hide (take_eq hlt hlt' HT.out he); clear q1 he; go_wp2; go_quiet (fail); go_wp2; go_roundw
            case rel => exact ⟨i + 1, by omega, by go_num, hide (bdrewN HB.out _), HT5⟩
            case measure => simp [intOf]; omega
          · have q1 : ((lk[i]).1 == (lk'[i]).1 && (lk[i]).2 == (lk'[i]).2) = false := by rw [Bool.eq_false_iff]; intro z; rw [Bool.and_eq_true, beq_iff_eq, beq_iff_eq] at z; exact he (Prod.ext z.1 z.2)
            rw [q1] at hnp; have HF := pq_no HRR fun z => he (by have z1 := congrArg Pq.pk z; dsimp only at z1; subst z1; rfl)
            clear q1 he; go_wp2; go_quiet (fail); go_wp2; go_ret
            exact ⟨ret_bool HF.out.symm, bcall HB3.out (bdrewN HB.out _)⟩
        · have HF := hide (show r = true by
           have z1 := HLLr.out; have z2 := HLLp.out; have z3 := take_allPl hlt M2.out HT.out; have z4 := K9.out; unfold sameF at z4; rw [decide_eq_true_eq] at z4; obtain ⟨rfl, rfl⟩ := z4; subst z1 z2 z3; exact HRR.out.symm.trans (decide_eq_true rfl))
          go_wp2; go_ret
          exact ⟨ret_bool HF.out.symm, bcall HB3.out HB.out⟩
