/- Layer plan: the program's Right: the mutators, and all. Written by tools/genplanr4.py. -/
import Derived.Test.YtdmbcjckgfjcaaaGreatDoorRaw
import Derived.Test.YtdmbcjckgfjcaaaGreatDoorRbj
namespace Go.Proofs.YtdmbcjckgfjcaaaGreatDoor
open Go.RowKit Go.Joins
theorem below_undrew {n : Nat} {a b : World} (h : Below n a.drew b) : Below n a b := ⟨h.os, h.tape, h.output, h.size, h.block⟩
theorem mu_s {t : TypeId} {w : World} {B pb po : Nat} {a b c d e f g h n : Int} {ob : Value} {s : Nat} {rg pg pk u : Value} (k : Bp t w B a b c d e f g h n ob s rg pg pk) (hp : w.cell? ⟨pb, po, none⟩ = some u) :
    w.cell? ⟨B, 0, none⟩ = some (.int .i64 a) ∧ w.cell? ⟨B, 1, none⟩ = some (.int .i64 b) ∧ w.cell? ⟨B, 2, none⟩ = some (.int .i64 c) ∧ w.cell? ⟨B, 3, none⟩ = some (.int .i64 d) ∧ w.cell? ⟨B, 4, none⟩ = some (.int .i64 e) ∧ w.cell? ⟨B, 5, none⟩ = some (.int .i64 f) ∧ w.cell? ⟨B, 6, none⟩ = some (.int .i64 g) ∧ w.cell? ⟨B, 7, none⟩ = some (.int .i64 h) ∧ w.cell? ⟨B, 8, none⟩ = some (.int .i64 n) ∧ w.cell? ⟨B, 9, none⟩ = some (ob) ∧ w.cell? ⟨B, 10, none⟩ = some (.int .u64 (s : Int)) ∧ w.cell? ⟨B, 11, none⟩ = some (rg) ∧ w.cell? ⟨B, 12, none⟩ = some (pg) ∧ w.cell? ⟨B, 13, none⟩ = some (pk) ∧ w.cell? ⟨pb, po, none⟩ = some u := by
  obtain ⟨x0, x1, x2, x3, x4, x5, x6, x7, x8, x9, xa, xb, xc, xd⟩ := k.cells
  exact ⟨x0, x1, x2, x3, x4, x5, x6, x7, x8, x9, xa, xb, xc, xd, hp⟩
set_option maxRecDepth 100000 in
set_option maxHeartbeats 8000000 in
theorem pMuts_any (a b c d e f g h n : Int) (ob : Value) (s : Nat) (rg pg pk : Value) (lo lr : Rws) (lp : List (List Oq)) (w : World) (ho : Grid w ob lo) (hr : Grid w rg lr) (hp : GridO w pg lp) (B : Bool) (hB : (decide ((lr.length : Int) = b ∧ (lp.length : Int) = b) && (lr.zip lp).all (mutF lo.length n)) = B) :
    Calls Tryz.prog 106 #[planV a b c d e f g h n ob s rg pg pk] w fun x w' => x = .returned (.bool B) ∧ Below w.heap.size w w' := by
  have HO := hide ho
  have HRG := hide hr
  have HPG := hide hp
  obtain ⟨Ao, mo, rfl, hm1, hm2⟩ := ho.form
  obtain ⟨Ar, mr, rfl, hr1, hr2⟩ := hr.form
  obtain ⟨Ap, mp, rfl, hp1, hp2⟩ := hp.form
  unfold maxLen at hm2 hr2 hp2
  clear ho hr hp
  obtain ⟨w1, e1, hb1, hs1, X⟩ := bp_new w a b c d e f g h n (.slice Ao lo.length mo) s (.slice Ar lr.length mr) (.slice Ap lp.length mp) pk 30
  have HX := hide X
  have HE := hide e1
  have HB1 := hide hb1
  have HO1 := hide (HO.out.below hb1)
  have HR1 := hide (HRG.out.below hb1)
  have HP1 := hide (HPG.out.below hb1)
  obtain ⟨x0, x1, x2, x3, x4, x5, x6, x7, x8, x9, xa, xb, xc, xd⟩ := X.cells
  clear e1 X hb1 hs1
  by_cases q1 : (lr.length : Int) = b
  rotate_left
  · have n1 : ((lr.length : Int) != b) = true := by rw [bne_iff_ne]; exact q1
    have HF := hide (show B = false by rw [← hB, decide_eq_false (fun h => q1 h.1)]; rfl)
    clear hB q1
    unfold planV
    go_enter Tryz.func106, Tryz.ntmps106
    go_wp2_with fail
    go_ret
    exact ⟨ret_bool HF.out.symm, by first | exact HB1.out | (rw [HE.out]; exact HB1.out)⟩
  by_cases q2 : (lp.length : Int) = b
  rotate_left
  · have n1 : ((lr.length : Int) != b) = false := by rw [bne_eq_false_iff_eq]; exact q1
    have n2 : ((lp.length : Int) != b) = true := by rw [bne_iff_ne]; exact q2
    have HF := hide (show B = false by rw [← hB, decide_eq_false (fun h => q2 h.2)]; rfl)
    clear hB q1 q2
    unfold planV
    go_enter Tryz.func106, Tryz.ntmps106
    go_wp2_with fail
    go_ret
    exact ⟨ret_bool HF.out.symm, by first | exact HB1.out | (rw [HE.out]; exact HB1.out)⟩
  have n1 : ((lr.length : Int) != b) = false := by rw [bne_eq_false_iff_eq]; exact q1
  have n2 : ((lp.length : Int) != b) = false := by rw [bne_eq_false_iff_eq]; exact q2
  have HLP := hide (show lr.length = lp.length by omega)
  have HBB := hide (show B = (lr.zip lp).all (mutF lo.length n) by rw [← hB, decide_eq_true ⟨q1, q2⟩]; rfl)
  clear hB q1 q2
  unfold planV
  go_enter Tryz.func106, Tryz.ntmps106
  go_wp2_with fail
  rw [HE.out]
  go_loopw [22] (fun iv wr => ∃ i : Nat, i ≤ lr.length ∧ iv = .int .i64 i ∧ Hid (Below w1.heap.size w1 wr ∧ ((lr.zip lp).take i).all (mutF lo.length n) = true)) (fun iv _ => lr.length - (Go.RowKit.intOf iv).toNat)
  case atStart => exact ⟨0, Nat.zero_le _, rfl, hide ⟨Below.refl _ _, rfl⟩⟩
  case round =>
    obtain ⟨i, hi, rfl, HK⟩ := hrel
    have hb := HK.out.1
    have HXr := hide (HX.out.below hb)
    obtain ⟨x0, x1, x2, x3, x4, x5, x6, x7, x8, x9, xa, xb, xc, xd⟩ := HXr.out.cells
    by_cases hlt : i < lr.length
    · have hlp : i < lp.length := by have := HLP.out; omega
      obtain ⟨rb, ro, ru, rfl, hrb, hrc, hri⟩ := grid_at (HR1.out.below hb) hlt
      obtain ⟨pb, po, pu, rfl, hpb, hpc, hpi⟩ := gridO_at (HP1.out.below hb) hlp
      have hst := muts_stop (n := lo.length) (sl := n) hlt hlp
      have htk := muts_take (n := lo.length) (sl := n) hlt hlp HK.out.2
      obtain ⟨lx, hlx⟩ : ∃ lx, lr[i] = lx := ⟨_, rfl⟩
      obtain ⟨px, hpx⟩ : ∃ px, lp[i] = px := ⟨_, rfl⟩
      rw [hlx] at hri hst htk
      rw [hpx] at hpi hst htk
      obtain ⟨Ax, mx, hxe, hx1, hx2, -⟩ := id hri
      subst hxe
      obtain ⟨Ay, my, hye, hy1, hy2, -⟩ := id hpi
      subst hye
      unfold maxLen at hx2 hy2
      obtain ⟨XL, hXL⟩ : ∃ k, lx.length = k := ⟨_, rfl⟩
      obtain ⟨YL, hYL⟩ : ∃ k, px.length = k := ⟨_, rfl⟩
      have HMF : mutF lo.length n (lx, px) = (regsF lo.length lx && cFits px XL n) := by unfold mutF; rw [← hXL]
      rw [HMF] at hst htk
      have HI := hide hri
      have HP := hide hpi
      have HXL := hide hXL
      have HYL := hide hYL
      rw [hXL] at HI hrc hx1
      rw [hYL] at HP hpc hy1
      have HHB := hide hb
      have HRC := hide hrc
      have HPC := hide (show wr.drew.cell? ⟨pb, po + i, none⟩ = some (.slice Ay YL my) from hpc)
      clear hri hpi hlx hpx HMF hXL hYL
      cases r1 : regsF lo.length lx
      · have R1 := hide r1
        have HF := hide (show B = false by rw [HBB.out]; exact hst (by rw [r1]; rfl))
        clear r1 hst htk
        go_wp2
        refine wp_region_held_drew (S := fun w' => w'.cell? ⟨w.heap.size, 0, none⟩ = some (.int .i64 a) ∧ w'.cell? ⟨w.heap.size, 1, none⟩ = some (.int .i64 b) ∧ w'.cell? ⟨w.heap.size, 2, none⟩ = some (.int .i64 c) ∧ w'.cell? ⟨w.heap.size, 3, none⟩ = some (.int .i64 d) ∧ w'.cell? ⟨w.heap.size, 4, none⟩ = some (.int .i64 e) ∧ w'.cell? ⟨w.heap.size, 5, none⟩ = some (.int .i64 f) ∧ w'.cell? ⟨w.heap.size, 6, none⟩ = some (.int .i64 g) ∧ w'.cell? ⟨w.heap.size, 7, none⟩ = some (.int .i64 h) ∧ w'.cell? ⟨w.heap.size, 8, none⟩ = some (.int .i64 n) ∧ w'.cell? ⟨w.heap.size, 9, none⟩ = some (.slice Ao lo.length mo) ∧ w'.cell? ⟨w.heap.size, 10, none⟩ = some (.int .u64 (s : Int)) ∧ w'.cell? ⟨w.heap.size, 11, none⟩ = some (.slice (some ⟨rb, ro, none⟩) lr.length mr) ∧ w'.cell? ⟨w.heap.size, 12, none⟩ = some (.slice (some ⟨pb, po, none⟩) lp.length mp) ∧ w'.cell? ⟨w.heap.size, 13, none⟩ = some (pk) ∧ w'.cell? ⟨pb, po + i, none⟩ = some (.slice Ay YL my)) (by kernel_rfl) ?_ (fun hHeld => ?_)
        · exact (by first | (with_reducible exact mu_s HXr.out.drew HPC.out) | (with_reducible exact mu_s (HXr.out.drew.below hb3) ((hb3.cell (p := ⟨pb, po + i, none⟩) hpb).trans HPC.out)) | (with_reducible exact mu_s ((HXr.out.drew.below hb3).below hb4) ((hb4.cell (p := ⟨pb, po + i, none⟩) (Nat.lt_of_lt_of_le hpb hb3.size)).trans ((hb3.cell (p := ⟨pb, po + i, none⟩) hpb).trans HPC.out))) | exact mu_s (HXr.out.drew.below hb3) ((hb3.cell (p := ⟨pb, po + i, none⟩) hpb).trans HPC.out) | exact mu_s ((HXr.out.drew.below hb3).below hb4) ((hb4.cell (p := ⟨pb, po + i, none⟩) (Nat.lt_of_lt_of_le hpb hb3.size)).trans ((hb3.cell (p := ⟨pb, po + i, none⟩) hpb).trans HPC.out)))
        refine tk 0 (h := ?_)
        refine tk 1 (h := ?_)
        refine tk 2 (h := ?_)
        refine wpAnyH_ready (rs := [3]) (by kernel_rfl) (by simp) ?_
        refine AllReadyH.cons rfl (fun K hK => ?_) AllReadyH.nil
        go_simp
        go_at_call 147
        (with_reducible refine (pRegs_any _ lx n _ lo _ (HI.out.below (belowD (Below.refl _ _))) (((HO1.out.below HHB.out).below (belowD (Below.refl _ _)))) false R1.out).mono ?_)
        rintro x w3 ⟨rfl, hb3⟩
        (try go_simp)
        refine hK.out _ _ (by first | (with_reducible exact mu_s HXr.out.drew HPC.out) | (with_reducible exact mu_s (HXr.out.drew.below hb3) ((hb3.cell (p := ⟨pb, po + i, none⟩) hpb).trans HPC.out)) | (with_reducible exact mu_s ((HXr.out.drew.below hb3).below hb4) ((hb4.cell (p := ⟨pb, po + i, none⟩) (Nat.lt_of_lt_of_le hpb hb3.size)).trans ((hb3.cell (p := ⟨pb, po + i, none⟩) hpb).trans HPC.out))) | exact mu_s (HXr.out.drew.below hb3) ((hb3.cell (p := ⟨pb, po + i, none⟩) hpb).trans HPC.out) | exact mu_s ((HXr.out.drew.below hb3).below hb4) ((hb4.cell (p := ⟨pb, po + i, none⟩) (Nat.lt_of_lt_of_le hpb hb3.size)).trans ((hb3.cell (p := ⟨pb, po + i, none⟩) hpb).trans HPC.out))) (fun hHeld => ?_)
        (try simp only [Act.put, List.setIfInBounds_toArray, List.set_cons_zero, List.set_cons_succ])
        refine tk 4 (h := ?_)
        refine tk 5 (h := ?_)
        refine tu 6 (h := ?_)
        refine tu 7 (h := ?_)
        refine tu 8 (h := ?_)
        refine tu 9 (h := ?_)
        refine tu 10 (h := ?_)
        refine tu 11 (h := ?_)
        refine tu 12 (h := ?_)
        refine tu 13 (h := ?_)
        refine tu 14 (h := ?_)
        refine tu 15 (h := ?_)
        refine tu 16 (h := ?_)
        refine tu 17 (h := ?_)
        refine tk 18 (h := ?_)
        refine wpAnyH_done (by kernel_rfl) ?_ _
        go_wp2
        go_ret
        exact ⟨ret_bool HF.out.symm, bcall HB1.out (bcall HHB.out (below_undrew hb3))⟩
      have R1 := hide r1
      obtain ⟨fB, hfB⟩ : ∃ fB, cFits px XL n = fB := ⟨_, rfl⟩
      have F1 := hide hfB
      rw [r1, hfB, Bool.true_and] at hst htk
      clear r1 hfB
      cases fB
      · have HF := hide (show B = false by rw [HBB.out]; exact hst rfl)
        clear hst htk
        go_wp2
        refine wp_region_held_drew (S := fun w' => w'.cell? ⟨w.heap.size, 0, none⟩ = some (.int .i64 a) ∧ w'.cell? ⟨w.heap.size, 1, none⟩ = some (.int .i64 b) ∧ w'.cell? ⟨w.heap.size, 2, none⟩ = some (.int .i64 c) ∧ w'.cell? ⟨w.heap.size, 3, none⟩ = some (.int .i64 d) ∧ w'.cell? ⟨w.heap.size, 4, none⟩ = some (.int .i64 e) ∧ w'.cell? ⟨w.heap.size, 5, none⟩ = some (.int .i64 f) ∧ w'.cell? ⟨w.heap.size, 6, none⟩ = some (.int .i64 g) ∧ w'.cell? ⟨w.heap.size, 7, none⟩ = some (.int .i64 h) ∧ w'.cell? ⟨w.heap.size, 8, none⟩ = some (.int .i64 n) ∧ w'.cell? ⟨w.heap.size, 9, none⟩ = some (.slice Ao lo.length mo) ∧ w'.cell? ⟨w.heap.size, 10, none⟩ = some (.int .u64 (s : Int)) ∧ w'.cell? ⟨w.heap.size, 11, none⟩ = some (.slice (some ⟨rb, ro, none⟩) lr.length mr) ∧ w'.cell? ⟨w.heap.size, 12, none⟩ = some (.slice (some ⟨pb, po, none⟩) lp.length mp) ∧ w'.cell? ⟨w.heap.size, 13, none⟩ = some (pk) ∧ w'.cell? ⟨pb, po + i, none⟩ = some (.slice Ay YL my)) (by kernel_rfl) ?_ (fun hHeld => ?_)
        · exact (by first | (with_reducible exact mu_s HXr.out.drew HPC.out) | (with_reducible exact mu_s (HXr.out.drew.below hb3) ((hb3.cell (p := ⟨pb, po + i, none⟩) hpb).trans HPC.out)) | (with_reducible exact mu_s ((HXr.out.drew.below hb3).below hb4) ((hb4.cell (p := ⟨pb, po + i, none⟩) (Nat.lt_of_lt_of_le hpb hb3.size)).trans ((hb3.cell (p := ⟨pb, po + i, none⟩) hpb).trans HPC.out))) | exact mu_s (HXr.out.drew.below hb3) ((hb3.cell (p := ⟨pb, po + i, none⟩) hpb).trans HPC.out) | exact mu_s ((HXr.out.drew.below hb3).below hb4) ((hb4.cell (p := ⟨pb, po + i, none⟩) (Nat.lt_of_lt_of_le hpb hb3.size)).trans ((hb3.cell (p := ⟨pb, po + i, none⟩) hpb).trans HPC.out)))
        refine tk 0 (h := ?_)
        refine tk 1 (h := ?_)
        refine tk 2 (h := ?_)
        refine wpAnyH_ready (rs := [3]) (by kernel_rfl) (by simp) ?_
        refine AllReadyH.cons rfl (fun K hK => ?_) AllReadyH.nil
        go_simp
        go_at_call 147
        (with_reducible refine (pRegs_any _ lx n _ lo _ (HI.out.below (belowD (Below.refl _ _))) (((HO1.out.below HHB.out).below (belowD (Below.refl _ _)))) true R1.out).mono ?_)
        rintro x w3 ⟨rfl, hb3⟩
        (try go_simp)
        refine hK.out _ _ (by first | (with_reducible exact mu_s HXr.out.drew HPC.out) | (with_reducible exact mu_s (HXr.out.drew.below hb3) ((hb3.cell (p := ⟨pb, po + i, none⟩) hpb).trans HPC.out)) | (with_reducible exact mu_s ((HXr.out.drew.below hb3).below hb4) ((hb4.cell (p := ⟨pb, po + i, none⟩) (Nat.lt_of_lt_of_le hpb hb3.size)).trans ((hb3.cell (p := ⟨pb, po + i, none⟩) hpb).trans HPC.out))) | exact mu_s (HXr.out.drew.below hb3) ((hb3.cell (p := ⟨pb, po + i, none⟩) hpb).trans HPC.out) | exact mu_s ((HXr.out.drew.below hb3).below hb4) ((hb4.cell (p := ⟨pb, po + i, none⟩) (Nat.lt_of_lt_of_le hpb hb3.size)).trans ((hb3.cell (p := ⟨pb, po + i, none⟩) hpb).trans HPC.out))) (fun hHeld => ?_)
        (try simp only [Act.put, List.setIfInBounds_toArray, List.set_cons_zero, List.set_cons_succ])
        refine tk 4 (h := ?_)
        refine tk 5 (h := ?_)
        refine tk 6 (h := ?_)
        refine tk 7 (h := ?_)
        refine tk 8 (h := ?_)
        refine tk 9 (h := ?_)
        refine tk 10 (h := ?_)
        refine tk 11 (h := ?_)
        refine tk 12 (h := ?_)
        refine tk 13 (h := ?_)
        refine tk 14 (h := ?_)
        refine tk 15 (h := ?_)
        refine wpAnyH_ready (rs := [16]) (by kernel_rfl) (by simp) ?_
        refine AllReadyH.cons rfl (fun K hK => ?_) AllReadyH.nil
        go_simp
        go_at_call 148
        (with_reducible refine (Fits_c px YL XL n _ Ay my HYL.out F1.out _ ((HP.out.below (belowD (Below.refl _ _))).below hb3)).mono ?_)
        rintro x w4 ⟨rfl, hb4⟩
        (try go_simp)
        refine hK.out _ _ (by first | (with_reducible exact mu_s HXr.out.drew HPC.out) | (with_reducible exact mu_s (HXr.out.drew.below hb3) ((hb3.cell (p := ⟨pb, po + i, none⟩) hpb).trans HPC.out)) | (with_reducible exact mu_s ((HXr.out.drew.below hb3).below hb4) ((hb4.cell (p := ⟨pb, po + i, none⟩) (Nat.lt_of_lt_of_le hpb hb3.size)).trans ((hb3.cell (p := ⟨pb, po + i, none⟩) hpb).trans HPC.out))) | exact mu_s (HXr.out.drew.below hb3) ((hb3.cell (p := ⟨pb, po + i, none⟩) hpb).trans HPC.out) | exact mu_s ((HXr.out.drew.below hb3).below hb4) ((hb4.cell (p := ⟨pb, po + i, none⟩) (Nat.lt_of_lt_of_le hpb hb3.size)).trans ((hb3.cell (p := ⟨pb, po + i, none⟩) hpb).trans HPC.out))) (fun hHeld => ?_)
        (try simp only [Act.put, List.setIfInBounds_toArray, List.set_cons_zero, List.set_cons_succ])
        refine tk 17 (h := ?_)
        refine tk 18 (h := ?_)
        refine wpAnyH_done (by kernel_rfl) ?_ _
        go_wp2
        go_ret
        exact ⟨ret_bool HF.out.symm, bcall HB1.out (bcall HHB.out (bcall (below_undrew hb3) hb4))⟩
      · have HT := hide (htk rfl)
        clear hst htk
        go_wp2
        refine wp_region_held_drew (S := fun w' => w'.cell? ⟨w.heap.size, 0, none⟩ = some (.int .i64 a) ∧ w'.cell? ⟨w.heap.size, 1, none⟩ = some (.int .i64 b) ∧ w'.cell? ⟨w.heap.size, 2, none⟩ = some (.int .i64 c) ∧ w'.cell? ⟨w.heap.size, 3, none⟩ = some (.int .i64 d) ∧ w'.cell? ⟨w.heap.size, 4, none⟩ = some (.int .i64 e) ∧ w'.cell? ⟨w.heap.size, 5, none⟩ = some (.int .i64 f) ∧ w'.cell? ⟨w.heap.size, 6, none⟩ = some (.int .i64 g) ∧ w'.cell? ⟨w.heap.size, 7, none⟩ = some (.int .i64 h) ∧ w'.cell? ⟨w.heap.size, 8, none⟩ = some (.int .i64 n) ∧ w'.cell? ⟨w.heap.size, 9, none⟩ = some (.slice Ao lo.length mo) ∧ w'.cell? ⟨w.heap.size, 10, none⟩ = some (.int .u64 (s : Int)) ∧ w'.cell? ⟨w.heap.size, 11, none⟩ = some (.slice (some ⟨rb, ro, none⟩) lr.length mr) ∧ w'.cell? ⟨w.heap.size, 12, none⟩ = some (.slice (some ⟨pb, po, none⟩) lp.length mp) ∧ w'.cell? ⟨w.heap.size, 13, none⟩ = some (pk) ∧ w'.cell? ⟨pb, po + i, none⟩ = some (.slice Ay YL my)) (by kernel_rfl) ?_ (fun hHeld => ?_)
        · exact (by first | (with_reducible exact mu_s HXr.out.drew HPC.out) | (with_reducible exact mu_s (HXr.out.drew.below hb3) ((hb3.cell (p := ⟨pb, po + i, none⟩) hpb).trans HPC.out)) | (with_reducible exact mu_s ((HXr.out.drew.below hb3).below hb4) ((hb4.cell (p := ⟨pb, po + i, none⟩) (Nat.lt_of_lt_of_le hpb hb3.size)).trans ((hb3.cell (p := ⟨pb, po + i, none⟩) hpb).trans HPC.out))) | exact mu_s (HXr.out.drew.below hb3) ((hb3.cell (p := ⟨pb, po + i, none⟩) hpb).trans HPC.out) | exact mu_s ((HXr.out.drew.below hb3).below hb4) ((hb4.cell (p := ⟨pb, po + i, none⟩) (Nat.lt_of_lt_of_le hpb hb3.size)).trans ((hb3.cell (p := ⟨pb, po + i, none⟩) hpb).trans HPC.out)))
        refine tk 0 (h := ?_)
        refine tk 1 (h := ?_)
        refine tk 2 (h := ?_)
        refine wpAnyH_ready (rs := [3]) (by kernel_rfl) (by simp) ?_
        refine AllReadyH.cons rfl (fun K hK => ?_) AllReadyH.nil
        go_simp
        go_at_call 147
        (with_reducible refine (pRegs_any _ lx n _ lo _ (HI.out.below (belowD (Below.refl _ _))) (((HO1.out.below HHB.out).below (belowD (Below.refl _ _)))) true R1.out).mono ?_)
        rintro x w3 ⟨rfl, hb3⟩
        (try go_simp)
        refine hK.out _ _ (by first | (with_reducible exact mu_s HXr.out.drew HPC.out) | (with_reducible exact mu_s (HXr.out.drew.below hb3) ((hb3.cell (p := ⟨pb, po + i, none⟩) hpb).trans HPC.out)) | (with_reducible exact mu_s ((HXr.out.drew.below hb3).below hb4) ((hb4.cell (p := ⟨pb, po + i, none⟩) (Nat.lt_of_lt_of_le hpb hb3.size)).trans ((hb3.cell (p := ⟨pb, po + i, none⟩) hpb).trans HPC.out))) | exact mu_s (HXr.out.drew.below hb3) ((hb3.cell (p := ⟨pb, po + i, none⟩) hpb).trans HPC.out) | exact mu_s ((HXr.out.drew.below hb3).below hb4) ((hb4.cell (p := ⟨pb, po + i, none⟩) (Nat.lt_of_lt_of_le hpb hb3.size)).trans ((hb3.cell (p := ⟨pb, po + i, none⟩) hpb).trans HPC.out))) (fun hHeld => ?_)
        (try simp only [Act.put, List.setIfInBounds_toArray, List.set_cons_zero, List.set_cons_succ])
        refine tk 4 (h := ?_)
        refine tk 5 (h := ?_)
        refine tk 6 (h := ?_)
        refine tk 7 (h := ?_)
        refine tk 8 (h := ?_)
        refine tk 9 (h := ?_)
        refine tk 10 (h := ?_)
        refine tk 11 (h := ?_)
        refine tk 12 (h := ?_)
        refine tk 13 (h := ?_)
        refine tk 14 (h := ?_)
        refine tk 15 (h := ?_)
        refine wpAnyH_ready (rs := [16]) (by kernel_rfl) (by simp) ?_
        refine AllReadyH.cons rfl (fun K hK => ?_) AllReadyH.nil
        go_simp
        go_at_call 148
        (with_reducible refine (Fits_c px YL XL n _ Ay my HYL.out F1.out _ ((HP.out.below (belowD (Below.refl _ _))).below hb3)).mono ?_)
        rintro x w4 ⟨rfl, hb4⟩
        (try go_simp)
        refine hK.out _ _ (by first | (with_reducible exact mu_s HXr.out.drew HPC.out) | (with_reducible exact mu_s (HXr.out.drew.below hb3) ((hb3.cell (p := ⟨pb, po + i, none⟩) hpb).trans HPC.out)) | (with_reducible exact mu_s ((HXr.out.drew.below hb3).below hb4) ((hb4.cell (p := ⟨pb, po + i, none⟩) (Nat.lt_of_lt_of_le hpb hb3.size)).trans ((hb3.cell (p := ⟨pb, po + i, none⟩) hpb).trans HPC.out))) | exact mu_s (HXr.out.drew.below hb3) ((hb3.cell (p := ⟨pb, po + i, none⟩) hpb).trans HPC.out) | exact mu_s ((HXr.out.drew.below hb3).below hb4) ((hb4.cell (p := ⟨pb, po + i, none⟩) (Nat.lt_of_lt_of_le hpb hb3.size)).trans ((hb3.cell (p := ⟨pb, po + i, none⟩) hpb).trans HPC.out))) (fun hHeld => ?_)
        (try simp only [Act.put, List.setIfInBounds_toArray, List.set_cons_zero, List.set_cons_succ])
        refine tk 17 (h := ?_)
        refine tk 18 (h := ?_)
        refine wpAnyH_done (by kernel_rfl) ?_ _
        go_wp2
        go_roundw
        case rel => exact ⟨i + 1, by omega, by go_num, hide ⟨bcall HHB.out (bcall (below_undrew hb3) hb4), HT.out⟩⟩
        case measure => simp [Go.RowKit.intOf]; omega
    · have HF := hide (show B = true by rw [HBB.out]; exact muts_end HLP.out (by have h := HK.out.2; rwa [show i = lr.length by omega] at h))
      have HHB := hide hb
      go_wp2
      go_ret
      exact ⟨ret_bool HF.out.symm, bcall HB1.out HHB.out⟩
set_option maxRecDepth 100000 in
set_option maxHeartbeats 8000000 in
theorem pRight_any (a b c d e f g h n : Int) (ob : Value) (s : Nat) (rg pg pk : Value) (lo lr : Rws) (lp : List (List Oq)) (lk : List PP) (w : World) (hs : s < 18446744073709551616) (hR : PlanR w ob rg pg pk ⟨a, b, c, d, e, f, g, h, n, lo, s, lr, lp, lk⟩) :
    Calls Tryz.prog 52 #[planV a b c d e f g h n ob s rg pg pk] w fun x w' => x = .returned (.bool (pRight ⟨a, b, c, d, e, f, g, h, n, lo, s, lr, lp, lk⟩)) ∧ Below w.heap.size w w' := by
  obtain ⟨B, hB⟩ : ∃ B, pRight ⟨a, b, c, d, e, f, g, h, n, lo, s, lr, lp, lk⟩ = B := ⟨_, rfl⟩
  rw [hB]
  have HB4 := hide (hB.symm.trans (pRight_four _))
  clear hB
  have HR := hide hR
  have HS := hide hs
  obtain ⟨Ao, mo, rfl, -, -⟩ := hR.ob.form
  obtain ⟨Ar, mr, rfl, -, -⟩ := hR.rg.form
  obtain ⟨Ap, mp, rfl, -, -⟩ := hR.pg.form
  obtain ⟨Ak, mk, rfl, -, -, -⟩ := id hR.pk
  clear hR hs
  obtain ⟨w1, e1, hb1, hs1, X⟩ := bp_new w a b c d e f g h n (.slice Ao lo.length mo) s (.slice Ar lr.length mr) (.slice Ap lp.length mp) (.slice Ak lk.length mk) 30
  have HX := hide X
  have HE := hide e1
  have HB1 := hide hb1
  have HR1 := hide (HR.out.below hb1)
  obtain ⟨x0, x1, x2, x3, x4, x5, x6, x7, x8, x9, xa, xb, xc, xd⟩ := X.cells
  clear e1 X hb1 hs1
  cases k0 : numsBPl ⟨a, b, c, d, e, f, g, h, n, lo, s, lr, lp, lk⟩
  · have K0 := hide k0
    clear k0
    have HF := hide (show B = false by rw [HB4.out, K0.out]; rfl)
    have C0 := hide (fun W => pNums_any a b c d e f g h n (.slice Ao lo.length mo) s (.slice Ar lr.length mr) (.slice Ap lp.length mp) (.slice Ak lk.length mk) W _ K0.out)
    unfold planV
    go_enter Tryz.func52, Tryz.ntmps52
    go_wp2_with fail
    rw [HE.out]
    have R0 := HR1
    (with_reducible refine (C0.out _).mono ?_)
    rintro x w2 ⟨rfl, hb2⟩
    have R1 := hide (R0.out.below hb2)
    have XX1 := hide (HX.out.below hb2)
    have BB1 := hide (bcall HB1.out hb2)
    clear x0 x1 x2 x3 x4 x5 x6 x7 x8 x9 xa xb xc xd hb2
    obtain ⟨x0, x1, x2, x3, x4, x5, x6, x7, x8, x9, xa, xb, xc, xd⟩ := XX1.out.cells
    go_wp2
    go_ret
    exact ⟨ret_bool HF.out.symm, BB1.out⟩
  have K0 := hide k0
  clear k0
  cases k1 : heapB ⟨a, b, c, d, e, f, g, h, n, lo, s, lr, lp, lk⟩
  · have K1 := hide k1
    clear k1
    have HF := hide (show B = false by rw [HB4.out, K0.out, K1.out]; rfl)
    have C0 := hide (fun W => pNums_any a b c d e f g h n (.slice Ao lo.length mo) s (.slice Ar lr.length mr) (.slice Ap lp.length mp) (.slice Ak lk.length mk) W _ K0.out)
    have C1 := hide (fun (W : World) (h1 : Grid W (.slice Ao lo.length mo) lo) => pHeap_any a b c d e f g h n (.slice Ao lo.length mo) s (.slice Ar lr.length mr) (.slice Ap lp.length mp) (.slice Ak lk.length mk) lo W HS.out h1 _ K1.out)
    unfold planV
    go_enter Tryz.func52, Tryz.ntmps52
    go_wp2_with fail
    rw [HE.out]
    have R0 := HR1
    (with_reducible refine (C0.out _).mono ?_)
    rintro x w2 ⟨rfl, hb2⟩
    have R1 := hide (R0.out.below hb2)
    have XX1 := hide (HX.out.below hb2)
    have BB1 := hide (bcall HB1.out hb2)
    clear x0 x1 x2 x3 x4 x5 x6 x7 x8 x9 xa xb xc xd hb2
    obtain ⟨x0, x1, x2, x3, x4, x5, x6, x7, x8, x9, xa, xb, xc, xd⟩ := XX1.out.cells
    go_wp2_with fail
    (with_reducible refine (C1.out _ R1.out.ob).mono ?_)
    rintro x w3 ⟨rfl, hb3⟩
    have R2 := hide (R1.out.below hb3)
    have XX2 := hide (XX1.out.below hb3)
    have BB2 := hide (bcall BB1.out hb3)
    clear x0 x1 x2 x3 x4 x5 x6 x7 x8 x9 xa xb xc xd hb3
    obtain ⟨x0, x1, x2, x3, x4, x5, x6, x7, x8, x9, xa, xb, xc, xd⟩ := XX2.out.cells
    go_wp2
    go_ret
    exact ⟨ret_bool HF.out.symm, BB2.out⟩
  have K1 := hide k1
  clear k1
  cases k2 : mutsB ⟨a, b, c, d, e, f, g, h, n, lo, s, lr, lp, lk⟩
  · have K2 := hide k2
    clear k2
    have HF := hide (show B = false by rw [HB4.out, K0.out, K1.out, K2.out]; rfl)
    have C0 := hide (fun W => pNums_any a b c d e f g h n (.slice Ao lo.length mo) s (.slice Ar lr.length mr) (.slice Ap lp.length mp) (.slice Ak lk.length mk) W _ K0.out)
    have C1 := hide (fun (W : World) (h1 : Grid W (.slice Ao lo.length mo) lo) => pHeap_any a b c d e f g h n (.slice Ao lo.length mo) s (.slice Ar lr.length mr) (.slice Ap lp.length mp) (.slice Ak lk.length mk) lo W HS.out h1 _ K1.out)
    have C2 := hide (fun (W : World) (h1 : Grid W (.slice Ao lo.length mo) lo) (h2 : Grid W (.slice Ar lr.length mr) lr) (h3 : GridO W (.slice Ap lp.length mp) lp) => pMuts_any a b c d e f g h n (.slice Ao lo.length mo) s (.slice Ar lr.length mr) (.slice Ap lp.length mp) (.slice Ak lk.length mk) lo lr lp W h1 h2 h3 _ K2.out)
    unfold planV
    go_enter Tryz.func52, Tryz.ntmps52
    go_wp2_with fail
    rw [HE.out]
    have R0 := HR1
    (with_reducible refine (C0.out _).mono ?_)
    rintro x w2 ⟨rfl, hb2⟩
    have R1 := hide (R0.out.below hb2)
    have XX1 := hide (HX.out.below hb2)
    have BB1 := hide (bcall HB1.out hb2)
    clear x0 x1 x2 x3 x4 x5 x6 x7 x8 x9 xa xb xc xd hb2
    obtain ⟨x0, x1, x2, x3, x4, x5, x6, x7, x8, x9, xa, xb, xc, xd⟩ := XX1.out.cells
    go_wp2_with fail
    (with_reducible refine (C1.out _ R1.out.ob).mono ?_)
    rintro x w3 ⟨rfl, hb3⟩
    have R2 := hide (R1.out.below hb3)
    have XX2 := hide (XX1.out.below hb3)
    have BB2 := hide (bcall BB1.out hb3)
    clear x0 x1 x2 x3 x4 x5 x6 x7 x8 x9 xa xb xc xd hb3
    obtain ⟨x0, x1, x2, x3, x4, x5, x6, x7, x8, x9, xa, xb, xc, xd⟩ := XX2.out.cells
    go_wp2_with fail
    (with_reducible refine (C2.out _ R2.out.ob R2.out.rg R2.out.pg).mono ?_)
    rintro x w4 ⟨rfl, hb4⟩
    have R3 := hide (R2.out.below hb4)
    have XX3 := hide (XX2.out.below hb4)
    have BB3 := hide (bcall BB2.out hb4)
    clear x0 x1 x2 x3 x4 x5 x6 x7 x8 x9 xa xb xc xd hb4
    obtain ⟨x0, x1, x2, x3, x4, x5, x6, x7, x8, x9, xa, xb, xc, xd⟩ := XX3.out.cells
    go_wp2
    go_ret
    exact ⟨ret_bool HF.out.symm, BB3.out⟩
  have K2 := hide k2
  clear k2
  cases k3 : picksB ⟨a, b, c, d, e, f, g, h, n, lo, s, lr, lp, lk⟩
  · have K3 := hide k3
    clear k3
    have HF := hide (show B = false by rw [HB4.out, K0.out, K1.out, K2.out, K3.out]; rfl)
    have C0 := hide (fun W => pNums_any a b c d e f g h n (.slice Ao lo.length mo) s (.slice Ar lr.length mr) (.slice Ap lp.length mp) (.slice Ak lk.length mk) W _ K0.out)
    have C1 := hide (fun (W : World) (h1 : Grid W (.slice Ao lo.length mo) lo) => pHeap_any a b c d e f g h n (.slice Ao lo.length mo) s (.slice Ar lr.length mr) (.slice Ap lp.length mp) (.slice Ak lk.length mk) lo W HS.out h1 _ K1.out)
    have C2 := hide (fun (W : World) (h1 : Grid W (.slice Ao lo.length mo) lo) (h2 : Grid W (.slice Ar lr.length mr) lr) (h3 : GridO W (.slice Ap lp.length mp) lp) => pMuts_any a b c d e f g h n (.slice Ao lo.length mo) s (.slice Ar lr.length mr) (.slice Ap lp.length mp) (.slice Ak lk.length mk) lo lr lp W h1 h2 h3 _ K2.out)
    have C3 := hide (fun (W : World) (h1 : Picks W (.slice Ak lk.length mk) lk) => pPicks_any a b c d e f g h n (.slice Ao lo.length mo) s (.slice Ar lr.length mr) (.slice Ap lp.length mp) (.slice Ak lk.length mk) lk W h1 _ K3.out)
    unfold planV
    go_enter Tryz.func52, Tryz.ntmps52
    go_wp2_with fail
    rw [HE.out]
    have R0 := HR1
    (with_reducible refine (C0.out _).mono ?_)
    rintro x w2 ⟨rfl, hb2⟩
    have R1 := hide (R0.out.below hb2)
    have XX1 := hide (HX.out.below hb2)
    have BB1 := hide (bcall HB1.out hb2)
    clear x0 x1 x2 x3 x4 x5 x6 x7 x8 x9 xa xb xc xd hb2
    obtain ⟨x0, x1, x2, x3, x4, x5, x6, x7, x8, x9, xa, xb, xc, xd⟩ := XX1.out.cells
    go_wp2_with fail
    (with_reducible refine (C1.out _ R1.out.ob).mono ?_)
    rintro x w3 ⟨rfl, hb3⟩
    have R2 := hide (R1.out.below hb3)
    have XX2 := hide (XX1.out.below hb3)
    have BB2 := hide (bcall BB1.out hb3)
    clear x0 x1 x2 x3 x4 x5 x6 x7 x8 x9 xa xb xc xd hb3
    obtain ⟨x0, x1, x2, x3, x4, x5, x6, x7, x8, x9, xa, xb, xc, xd⟩ := XX2.out.cells
    go_wp2_with fail
    (with_reducible refine (C2.out _ R2.out.ob R2.out.rg R2.out.pg).mono ?_)
    rintro x w4 ⟨rfl, hb4⟩
    have R3 := hide (R2.out.below hb4)
    have XX3 := hide (XX2.out.below hb4)
    have BB3 := hide (bcall BB2.out hb4)
    clear x0 x1 x2 x3 x4 x5 x6 x7 x8 x9 xa xb xc xd hb4
    obtain ⟨x0, x1, x2, x3, x4, x5, x6, x7, x8, x9, xa, xb, xc, xd⟩ := XX3.out.cells
    go_wp2_with fail
    (with_reducible refine (C3.out _ R3.out.pk).mono ?_)
    rintro x w5 ⟨rfl, hb5⟩
    have R4 := hide (R3.out.below hb5)
    have XX4 := hide (XX3.out.below hb5)
    have BB4 := hide (bcall BB3.out hb5)
    clear x0 x1 x2 x3 x4 x5 x6 x7 x8 x9 xa xb xc xd hb5
    obtain ⟨x0, x1, x2, x3, x4, x5, x6, x7, x8, x9, xa, xb, xc, xd⟩ := XX4.out.cells
    go_wp2
    go_ret
    exact ⟨ret_bool HF.out.symm, BB4.out⟩
  have K3 := hide k3
  clear k3
  have HF := hide (show B = true by rw [HB4.out, K0.out, K1.out, K2.out, K3.out]; rfl)
  have C0 := hide (fun W => pNums_any a b c d e f g h n (.slice Ao lo.length mo) s (.slice Ar lr.length mr) (.slice Ap lp.length mp) (.slice Ak lk.length mk) W _ K0.out)
  have C1 := hide (fun (W : World) (h1 : Grid W (.slice Ao lo.length mo) lo) => pHeap_any a b c d e f g h n (.slice Ao lo.length mo) s (.slice Ar lr.length mr) (.slice Ap lp.length mp) (.slice Ak lk.length mk) lo W HS.out h1 _ K1.out)
  have C2 := hide (fun (W : World) (h1 : Grid W (.slice Ao lo.length mo) lo) (h2 : Grid W (.slice Ar lr.length mr) lr) (h3 : GridO W (.slice Ap lp.length mp) lp) => pMuts_any a b c d e f g h n (.slice Ao lo.length mo) s (.slice Ar lr.length mr) (.slice Ap lp.length mp) (.slice Ak lk.length mk) lo lr lp W h1 h2 h3 _ K2.out)
  have C3 := hide (fun (W : World) (h1 : Picks W (.slice Ak lk.length mk) lk) => pPicks_any a b c d e f g h n (.slice Ao lo.length mo) s (.slice Ar lr.length mr) (.slice Ap lp.length mp) (.slice Ak lk.length mk) lk W h1 _ K3.out)
  unfold planV
  go_enter Tryz.func52, Tryz.ntmps52
  go_wp2_with fail
  rw [HE.out]
  have R0 := HR1
  (with_reducible refine (C0.out _).mono ?_)
  rintro x w2 ⟨rfl, hb2⟩
  have R1 := hide (R0.out.below hb2)
  have XX1 := hide (HX.out.below hb2)
  have BB1 := hide (bcall HB1.out hb2)
  clear x0 x1 x2 x3 x4 x5 x6 x7 x8 x9 xa xb xc xd hb2
  obtain ⟨x0, x1, x2, x3, x4, x5, x6, x7, x8, x9, xa, xb, xc, xd⟩ := XX1.out.cells
  go_wp2_with fail
  (with_reducible refine (C1.out _ R1.out.ob).mono ?_)
  rintro x w3 ⟨rfl, hb3⟩
  have R2 := hide (R1.out.below hb3)
  have XX2 := hide (XX1.out.below hb3)
  have BB2 := hide (bcall BB1.out hb3)
  clear x0 x1 x2 x3 x4 x5 x6 x7 x8 x9 xa xb xc xd hb3
  obtain ⟨x0, x1, x2, x3, x4, x5, x6, x7, x8, x9, xa, xb, xc, xd⟩ := XX2.out.cells
  go_wp2_with fail
  (with_reducible refine (C2.out _ R2.out.ob R2.out.rg R2.out.pg).mono ?_)
  rintro x w4 ⟨rfl, hb4⟩
  have R3 := hide (R2.out.below hb4)
  have XX3 := hide (XX2.out.below hb4)
  have BB3 := hide (bcall BB2.out hb4)
  clear x0 x1 x2 x3 x4 x5 x6 x7 x8 x9 xa xb xc xd hb4
  obtain ⟨x0, x1, x2, x3, x4, x5, x6, x7, x8, x9, xa, xb, xc, xd⟩ := XX3.out.cells
  go_wp2_with fail
  (with_reducible refine (C3.out _ R3.out.pk).mono ?_)
  rintro x w5 ⟨rfl, hb5⟩
  have R4 := hide (R3.out.below hb5)
  have XX4 := hide (XX3.out.below hb5)
  have BB4 := hide (bcall BB3.out hb5)
  clear x0 x1 x2 x3 x4 x5 x6 x7 x8 x9 xa xb xc xd hb5
  obtain ⟨x0, x1, x2, x3, x4, x5, x6, x7, x8, x9, xa, xb, xc, xd⟩ := XX4.out.cells
  go_wp2
  go_ret
  exact ⟨ret_bool HF.out.symm, BB4.out⟩
end Go.Proofs.YtdmbcjckgfjcaaaGreatDoor
