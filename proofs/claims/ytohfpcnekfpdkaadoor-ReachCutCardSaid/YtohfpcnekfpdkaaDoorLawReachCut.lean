/- ReachCut: for any heap, roots and slot: with the slot cleared no more is reached; and what was reached is still, if the slot is not of what is reached, or what it had is reached otherwise. No condition beside the listed table, which the card ties to the text. -/
import Derived.Test.YtohfpcnekfpdkaaDoorReachTied
import Derived.Test.YtohfpcnekfpdkaaDoorHeapUse0
namespace Go.Proofs.YtohfpcnekfpdkaaDoor.lawReachCut
open Go.RowKit Go.WideShapes Go.ChangeShapes Go.ChangeAt Go.Proofs Go.Proofs.YtohfpcnekfpdkaaDoor

theorem cut_none {ls : Rws} {o s : Int} (h : hasS ls o s = false) : putF ls o s 0 = ls ∧ getF ls o s = 0 := by
  exact ⟨(putOk_slot h).2, by unfold getF; rw [h]; rfl⟩
theorem cut_put {ls : Rws} {o s : Int} (h : hasS ls o s = true) : putF ls o s 0 = setF ls o s 0 := by
  have : mayF ls 0 = true := by unfold mayF; rw [decide_eq_true_iff]; omega
  exact (putOk_both h this).2
theorem cut_same {ls : Rws} {o s : Int} (h : hasS ls o s = true) (h0 : getF ls o s = 0) : putF ls o s 0 = ls := by
  rw [cut_put h]
  have h1 := hasS_iff.1 h
  unfold getF at h0
  rw [if_pos h, List.getD_eq_getElem?_getD, List.getElem?_eq_getElem (by omega)] at h0
  have h2 : (rowF ls o).set s.toNat 0 = rowF ls o := by
    apply List.ext_getElem?
    intro i
    rw [List.getElem?_set]
    split
    · rename_i e; subst e
      rw [if_pos (by omega), List.getElem?_eq_getElem (by omega)]
      simp at h0
      rw [h0]
    · rfl
  unfold setF
  rw [h2, rowF_mem ⟨h1.1, h1.2.1⟩]
  apply List.ext_getElem?
  intro i
  rw [List.getElem?_set]
  split
  · rename_i e; subst e
    rw [if_pos (by omega), List.getElem?_eq_getElem (by omega)]
  · rfl
set_option maxRecDepth 100000 in
set_option maxHeartbeats 8000000 in
theorem walk_wrong (n : Int) (vh : Value) (ls : Rws) (r : Nat) (o k a b : Int) (w : World) (hh : Grid w vh ls) (hf : Fit ls) (_hr : r < 18446744073709551616) (_ho : 0 ≤ o ∧ o ≤ 255) (_hk : 0 ≤ k ∧ k ≤ 255) (hE : EnvT w) (ea : o % 8 = a) (eb : k % 4 = b) (hRt : rightF n ls = false) :
    Calls Tryd.prog 9 #[hv n vh, .int .u64 r, .int .u8 o, .int .u8 k] w fun e w' => e = .returned (.bool true) ∧ Below w.heap.size w w' := by
  have GH := hide hh
  have HE := hide hE
  have hB : Below w.heap.size w w := Below.refl _ _
  have hF := hide hf
  have ha : 0 ≤ a ∧ a < 8 := by omega
  have hb4 : 0 ≤ b ∧ b < 4 := by omega
  have hRt := hide hRt
  clear hh hf hE
  obtain ⟨wp0_, ep0_, hbp0_, hltp0_, -, x0p_, y0p_⟩ := box1 w (.int .i64 n) (vh) 24
  have HEP0_ := hide ep0_
  clear ep0_
  have GH := hide (GH.out.below hbp0_)
  have HE := hide (HE.out.below hbp0_)
  have hB := bcall hB hbp0_
  go_enter Tryd.func9, Tryd.ntmps9
  go_wp2_with fail
  rw [HEP0_.out]
  (with_reducible refine (examples_any _ HE.out).mono ?_)
  rintro e w0_ ⟨rfl, hb0_⟩
  have x0p_ := keepc hb0_ x0p_
  have y0p_ := keepc hb0_ y0p_
  have GH := hide (GH.out.below hb0_)
  have HE := hide (HE.out.below hb0_)
  have hB := bcall hB hb0_
  go_wp2_with fail
  (with_reducible refine (Right_c n _ ls _ GH.out _ hRt.out).mono ?_)
  rintro e w1_ ⟨rfl, hb1_⟩
  have x0p_ := keepc hb1_ x0p_
  have y0p_ := keepc hb1_ y0p_
  have GH := hide (GH.out.below hb1_)
  have HE := hide (HE.out.below hb1_)
  have hB := bcall hB hb1_
  go_wp2
  go_ret
  exact ⟨rfl, hB⟩

set_option maxRecDepth 100000 in
set_option maxHeartbeats 8000000 in
theorem walk_none (n : Int) (vh : Value) (ls : Rws) (r : Nat) (o k a b : Int) (w : World) (hh : Grid w vh ls) (hf : Fit ls) (hr : r < 18446744073709551616) (ho : 0 ≤ o ∧ o ≤ 255) (hk : 0 ≤ k ∧ k ≤ 255) (hE : EnvT w) (ea : o % 8 = a) (eb : k % 4 = b) (hRt : rightF n ls = true) (hn : hasS ls (a + 1) b = false) :
    Calls Tryd.prog 9 #[hv n vh, .int .u64 r, .int .u8 o, .int .u8 k] w fun e w' => e = .returned (.bool true) ∧ Below w.heap.size w w' := by
  have GH := hide hh
  have HE := hide hE
  have hB : Below w.heap.size w w := Below.refl _ _
  have hF := hide hf
  have ha : 0 ≤ a ∧ a < 8 := by omega
  have hb4 : 0 ≤ b ∧ b < 4 := by omega
  obtain ⟨L, hL⟩ : ∃ L, ls.length = L := ⟨_, rfl⟩
  obtain ⟨S, hS⟩ : ∃ X, fromF ls r = X := ⟨_, rfl⟩
  have hSl : S < 18446744073709551616 := hS ▸ from_lt ls hr
  obtain ⟨hQ, hV⟩ := cut_none hn
  have hOk := hn
  have hT : ((fromF ls r : Nat) : Int) = S := by rw [hS]
  clear hn
  have hRt := hide hRt
  have hL := hide hL
  have hQ := hide hQ
  have hV := hide hV
  have hOk := hide hOk
  have hS := hide (show ((fromF ls r : Nat) : Int) = S by rw [hS])
  have hT := hide hT
  clear hh hf hE
  obtain ⟨wp0_, ep0_, hbp0_, hltp0_, -, x0p_, y0p_⟩ := box1 w (.int .i64 n) (vh) 24
  have HEP0_ := hide ep0_
  clear ep0_
  have GH := hide (GH.out.below hbp0_)
  have HE := hide (HE.out.below hbp0_)
  have hB := bcall hB hbp0_
  go_enter Tryd.func9, Tryd.ntmps9
  go_wp2_with fail
  rw [HEP0_.out]
  (with_reducible refine (examples_any _ HE.out).mono ?_)
  rintro e w0_ ⟨rfl, hb0_⟩
  have x0p_ := keepc hb0_ x0p_
  have y0p_ := keepc hb0_ y0p_
  have GH := hide (GH.out.below hb0_)
  have HE := hide (HE.out.below hb0_)
  have hB := bcall hB hb0_
  go_wp2_with fail
  (with_reducible refine (Right_c n _ ls _ GH.out _ hRt.out).mono ?_)
  rintro e w1_ ⟨rfl, hb1_⟩
  have x0p_ := keepc hb1_ x0p_
  have y0p_ := keepc hb1_ y0p_
  have GH := hide (GH.out.below hb1_)
  have HE := hide (HE.out.below hb1_)
  have hB := bcall hB hb1_
  go_wp2_with fail
  (with_reducible refine (From_c n vh ls r _ hr GH.out HE.out _ rfl S hS.out).mono ?_)
  rintro e w2_ ⟨rfl, hb2_⟩
  have x0p_ := keepc hb2_ x0p_
  have y0p_ := keepc hb2_ y0p_
  have GH := hide (GH.out.below hb2_)
  have HE := hide (HE.out.below hb2_)
  have hB := bcall hB hb2_
  go_wp2_with fail
  (with_reducible refine (Get_c n _ ls _ _ _ GH.out 0 hV.out false hOk.out).mono ?_)
  rintro e w3_ ⟨rfl, hb3_⟩
  have x0p_ := keepc hb3_ x0p_
  have y0p_ := keepc hb3_ y0p_
  have GH := hide (GH.out.below hb3_)
  have HE := hide (HE.out.below hb3_)
  have hB := bcall hB hb3_
  go_wp2_with fail
  (with_reducible refine (Put_c n _ ls _ _ _ _ GH.out hF.out L hL.out ls hQ.out _ rfl).mono ?_)
  rintro e w4_ ⟨A4_, c4_, rfl, p4_, q4_, GN, hb4_⟩
  have x0p_ := keepc hb4_ x0p_
  have y0p_ := keepc hb4_ y0p_
  have GH := hide (GH.out.below hb4_)
  have HE := hide (HE.out.below hb4_)
  have hB := bcall hB hb4_
  have GN := hide GN.out.grid
  obtain ⟨wb4_, eb4_, hbb4_, hlt4_, -, x4_, y4_⟩ := box1 w4_ (.int .i64 n) (.slice A4_ L c4_) 24
  have HEB4_ := hide eb4_
  clear eb4_
  have x0p_a := fun o => keepc (bal w4_ o) x0p_
  have y0p_a := fun o => keepc (bal w4_ o) y0p_
  have x0p_ := keepc hbb4_ x0p_
  have y0p_ := keepc hbb4_ y0p_
  have GH := hide (GH.out.below hbb4_)
  have GN := hide (GN.out.below hbb4_)
  have HE := hide (HE.out.below hbb4_)
  have hB := bcall hB hbb4_
  go_wp2_with fail
  rw [HEB4_.out]
  clear x0p_a y0p_a
  (with_reducible refine (From_c n _ ls r _ hr GN.out HE.out _ rfl S hT.out).mono ?_)
  rintro e w5_ ⟨rfl, hb5_⟩
  have x0p_ := keepc hb5_ x0p_
  have y0p_ := keepc hb5_ y0p_
  have x4_ := keepc hb5_ x4_
  have y4_ := keepc hb5_ y4_
  have GH := hide (GH.out.below hb5_)
  have GN := hide (GN.out.below hb5_)
  have HE := hide (HE.out.below hb5_)
  have hB := bcall hB hb5_
  go_wp2
  go_ret
  exact ⟨rfl, hB⟩

set_option maxRecDepth 100000 in
set_option maxHeartbeats 8000000 in
theorem walk_zero (n : Int) (vh : Value) (ls : Rws) (r : Nat) (o k a b : Int) (w : World) (hh : Grid w vh ls) (hf : Fit ls) (hr : r < 18446744073709551616) (ho : 0 ≤ o ∧ o ≤ 255) (hk : 0 ≤ k ∧ k ≤ 255) (hE : EnvT w) (ea : o % 8 = a) (eb : k % 4 = b) (hRt : rightF n ls = true) (hn : hasS ls (a + 1) b = true) (h0 : getF ls (a + 1) b = 0) :
    Calls Tryd.prog 9 #[hv n vh, .int .u64 r, .int .u8 o, .int .u8 k] w fun e w' => e = .returned (.bool true) ∧ Below w.heap.size w w' := by
  have GH := hide hh
  have HE := hide hE
  have hB : Below w.heap.size w w := Below.refl _ _
  have hF := hide hf
  have ha : 0 ≤ a ∧ a < 8 := by omega
  have hb4 : 0 ≤ b ∧ b < 4 := by omega
  obtain ⟨L, hL⟩ : ∃ L, ls.length = L := ⟨_, rfl⟩
  obtain ⟨S, hS⟩ : ∃ X, fromF ls r = X := ⟨_, rfl⟩
  have hSl : S < 18446744073709551616 := hS ▸ from_lt ls hr
  have hQ := cut_same hn h0
  have hV := h0
  have hOk := hn
  have hT : ((fromF ls r : Nat) : Int) = S := by rw [hS]
  clear hn h0
  have hRt := hide hRt
  have hL := hide hL
  have hQ := hide hQ
  have hV := hide hV
  have hOk := hide hOk
  have hS := hide (show ((fromF ls r : Nat) : Int) = S by rw [hS])
  have hT := hide hT
  clear hh hf hE
  obtain ⟨wp0_, ep0_, hbp0_, hltp0_, -, x0p_, y0p_⟩ := box1 w (.int .i64 n) (vh) 24
  have HEP0_ := hide ep0_
  clear ep0_
  have GH := hide (GH.out.below hbp0_)
  have HE := hide (HE.out.below hbp0_)
  have hB := bcall hB hbp0_
  go_enter Tryd.func9, Tryd.ntmps9
  go_wp2_with fail
  rw [HEP0_.out]
  (with_reducible refine (examples_any _ HE.out).mono ?_)
  rintro e w0_ ⟨rfl, hb0_⟩
  have x0p_ := keepc hb0_ x0p_
  have y0p_ := keepc hb0_ y0p_
  have GH := hide (GH.out.below hb0_)
  have HE := hide (HE.out.below hb0_)
  have hB := bcall hB hb0_
  go_wp2_with fail
  (with_reducible refine (Right_c n _ ls _ GH.out _ hRt.out).mono ?_)
  rintro e w1_ ⟨rfl, hb1_⟩
  have x0p_ := keepc hb1_ x0p_
  have y0p_ := keepc hb1_ y0p_
  have GH := hide (GH.out.below hb1_)
  have HE := hide (HE.out.below hb1_)
  have hB := bcall hB hb1_
  go_wp2_with fail
  (with_reducible refine (From_c n vh ls r _ hr GH.out HE.out _ rfl S hS.out).mono ?_)
  rintro e w2_ ⟨rfl, hb2_⟩
  have x0p_ := keepc hb2_ x0p_
  have y0p_ := keepc hb2_ y0p_
  have GH := hide (GH.out.below hb2_)
  have HE := hide (HE.out.below hb2_)
  have hB := bcall hB hb2_
  go_wp2_with fail
  (with_reducible refine (Get_c n _ ls _ _ _ GH.out 0 hV.out true hOk.out).mono ?_)
  rintro e w3_ ⟨rfl, hb3_⟩
  have x0p_ := keepc hb3_ x0p_
  have y0p_ := keepc hb3_ y0p_
  have GH := hide (GH.out.below hb3_)
  have HE := hide (HE.out.below hb3_)
  have hB := bcall hB hb3_
  go_wp2_with fail
  (with_reducible refine (Put_c n _ ls _ _ _ _ GH.out hF.out L hL.out ls hQ.out _ rfl).mono ?_)
  rintro e w4_ ⟨A4_, c4_, rfl, p4_, q4_, GN, hb4_⟩
  have x0p_ := keepc hb4_ x0p_
  have y0p_ := keepc hb4_ y0p_
  have GH := hide (GH.out.below hb4_)
  have HE := hide (HE.out.below hb4_)
  have hB := bcall hB hb4_
  have GN := hide GN.out.grid
  obtain ⟨wb4_, eb4_, hbb4_, hlt4_, -, x4_, y4_⟩ := box1 w4_ (.int .i64 n) (.slice A4_ L c4_) 24
  have HEB4_ := hide eb4_
  clear eb4_
  have x0p_a := fun o => keepc (bal w4_ o) x0p_
  have y0p_a := fun o => keepc (bal w4_ o) y0p_
  have x0p_ := keepc hbb4_ x0p_
  have y0p_ := keepc hbb4_ y0p_
  have GH := hide (GH.out.below hbb4_)
  have GN := hide (GN.out.below hbb4_)
  have HE := hide (HE.out.below hbb4_)
  have hB := bcall hB hbb4_
  go_wp2_with fail
  rw [HEB4_.out]
  clear x0p_a y0p_a
  (with_reducible refine (From_c n _ ls r _ hr GN.out HE.out _ rfl S hT.out).mono ?_)
  rintro e w5_ ⟨rfl, hb5_⟩
  have x0p_ := keepc hb5_ x0p_
  have y0p_ := keepc hb5_ y0p_
  have x4_ := keepc hb5_ x4_
  have y4_ := keepc hb5_ y4_
  have GH := hide (GH.out.below hb5_)
  have GN := hide (GN.out.below hb5_)
  have HE := hide (HE.out.below hb5_)
  have hB := bcall hB hb5_
  go_wp2
  go_ret
  exact ⟨rfl, hB⟩

set_option maxRecDepth 100000 in
set_option maxHeartbeats 8000000 in
theorem walk_off (n : Int) (vh : Value) (ls : Rws) (r : Nat) (o k a b : Int) (w : World) (hh : Grid w vh ls) (hf : Fit ls) (hr : r < 18446744073709551616) (ho : 0 ≤ o ∧ o ≤ 255) (hk : 0 ≤ k ∧ k ≤ 255) (hE : EnvT w) (ea : o % 8 = a) (eb : k % 4 = b) (hRt : rightF n ls = true) (hn : hasS ls (a + 1) b = true) (h0 : getF ls (a + 1) b ≠ 0) (hi : hasF (fromF ls r) (a + 1) = false) :
    Calls Tryd.prog 9 #[hv n vh, .int .u64 r, .int .u8 o, .int .u8 k] w fun e w' => e = .returned (.bool true) ∧ Below w.heap.size w w' := by
  have GH := hide hh
  have HE := hide hE
  have hB : Below w.heap.size w w := Below.refl _ _
  have hF := hide hf
  have ha : 0 ≤ a ∧ a < 8 := by omega
  have hb4 : 0 ≤ b ∧ b < 4 := by omega
  obtain ⟨L, hL⟩ : ∃ L, ls.length = L := ⟨_, rfl⟩
  obtain ⟨S, hS⟩ : ∃ X, fromF ls r = X := ⟨_, rfl⟩
  have hSl : S < 18446744073709551616 := hS ▸ from_lt ls hr
  obtain ⟨Q, hQ⟩ : ∃ R, putF ls (a + 1) b 0 = R := ⟨_, rfl⟩
  obtain ⟨v, hV⟩ : ∃ X, getF ls (a + 1) b = X := ⟨_, rfl⟩
  have hT : ((fromF Q r : Nat) : Int) = S := by
    congr 1
    rw [← hS, ← hQ, cut_put hn]
    refine has_ext (from_lt _ hr) (from_lt _ hr) fun x => ?_
    rw [from_has hr, from_has hr]
    exact ⟨cut_less hn, cut_off hn fun h => by rw [(from_has hr).2 h] at hi; cases hi⟩
  rw [hS] at hi
  rw [hV] at h0
  have hvb : (v == 0) = false := by simpa using h0
  have hH := hide hi
  have hOk := hn
  clear h0 hi hn
  have hRt := hide hRt
  have hL := hide hL
  have hQ := hide hQ
  have hV := hide hV
  have hOk := hide hOk
  have hS := hide (show ((fromF ls r : Nat) : Int) = S by rw [hS])
  have hT := hide hT
  clear hh hf hE
  obtain ⟨wp0_, ep0_, hbp0_, hltp0_, -, x0p_, y0p_⟩ := box1 w (.int .i64 n) (vh) 24
  have HEP0_ := hide ep0_
  clear ep0_
  have GH := hide (GH.out.below hbp0_)
  have HE := hide (HE.out.below hbp0_)
  have hB := bcall hB hbp0_
  go_enter Tryd.func9, Tryd.ntmps9
  go_wp2_with fail
  rw [HEP0_.out]
  (with_reducible refine (examples_any _ HE.out).mono ?_)
  rintro e w0_ ⟨rfl, hb0_⟩
  have x0p_ := keepc hb0_ x0p_
  have y0p_ := keepc hb0_ y0p_
  have GH := hide (GH.out.below hb0_)
  have HE := hide (HE.out.below hb0_)
  have hB := bcall hB hb0_
  go_wp2_with fail
  (with_reducible refine (Right_c n _ ls _ GH.out _ hRt.out).mono ?_)
  rintro e w1_ ⟨rfl, hb1_⟩
  have x0p_ := keepc hb1_ x0p_
  have y0p_ := keepc hb1_ y0p_
  have GH := hide (GH.out.below hb1_)
  have HE := hide (HE.out.below hb1_)
  have hB := bcall hB hb1_
  go_wp2_with fail
  (with_reducible refine (From_c n vh ls r _ hr GH.out HE.out _ rfl S hS.out).mono ?_)
  rintro e w2_ ⟨rfl, hb2_⟩
  have x0p_ := keepc hb2_ x0p_
  have y0p_ := keepc hb2_ y0p_
  have GH := hide (GH.out.below hb2_)
  have HE := hide (HE.out.below hb2_)
  have hB := bcall hB hb2_
  go_wp2_with fail
  (with_reducible refine (Get_c n _ ls _ _ _ GH.out v hV.out true hOk.out).mono ?_)
  rintro e w3_ ⟨rfl, hb3_⟩
  have x0p_ := keepc hb3_ x0p_
  have y0p_ := keepc hb3_ y0p_
  have GH := hide (GH.out.below hb3_)
  have HE := hide (HE.out.below hb3_)
  have hB := bcall hB hb3_
  go_wp2_with fail
  (with_reducible refine (Put_c n _ ls _ _ _ _ GH.out hF.out L hL.out Q hQ.out _ rfl).mono ?_)
  rintro e w4_ ⟨A4_, c4_, rfl, p4_, q4_, GN, hb4_⟩
  have x0p_ := keepc hb4_ x0p_
  have y0p_ := keepc hb4_ y0p_
  have GH := hide (GH.out.below hb4_)
  have HE := hide (HE.out.below hb4_)
  have hB := bcall hB hb4_
  have GN := hide GN.out.grid
  obtain ⟨wb4_, eb4_, hbb4_, hlt4_, -, x4_, y4_⟩ := box1 w4_ (.int .i64 n) (.slice A4_ L c4_) 24
  have HEB4_ := hide eb4_
  clear eb4_
  have x0p_a := fun o => keepc (bal w4_ o) x0p_
  have y0p_a := fun o => keepc (bal w4_ o) y0p_
  have x0p_ := keepc hbb4_ x0p_
  have y0p_ := keepc hbb4_ y0p_
  have GH := hide (GH.out.below hbb4_)
  have GN := hide (GN.out.below hbb4_)
  have HE := hide (HE.out.below hbb4_)
  have hB := bcall hB hbb4_
  go_wp2_with fail
  rw [HEB4_.out]
  clear x0p_a y0p_a
  (with_reducible refine (From_c n _ Q r _ hr GN.out HE.out _ rfl S hT.out).mono ?_)
  rintro e w5_ ⟨rfl, hb5_⟩
  have x0p_ := keepc hb5_ x0p_
  have y0p_ := keepc hb5_ y0p_
  have x4_ := keepc hb5_ x4_
  have y4_ := keepc hb5_ y4_
  have GH := hide (GH.out.below hb5_)
  have GN := hide (GN.out.below hb5_)
  have HE := hide (HE.out.below hb5_)
  have hB := bcall hB hb5_
  go_wp2_with fail
  (with_reducible refine (Has_any S (a + 1) _ hSl (by omega) (by omega)).mono ?_)
  rintro e w6_ ⟨rfl, rfl⟩
  rw [hH.out]
  go_wp2
  go_ret
  exact ⟨rfl, hB⟩

set_option maxRecDepth 100000 in
set_option maxHeartbeats 8000000 in
theorem walk_yes (n : Int) (vh : Value) (ls : Rws) (r : Nat) (o k a b : Int) (w : World) (hh : Grid w vh ls) (hf : Fit ls) (hr : r < 18446744073709551616) (ho : 0 ≤ o ∧ o ≤ 255) (hk : 0 ≤ k ∧ k ≤ 255) (hE : EnvT w) (ea : o % 8 = a) (eb : k % 4 = b) (hRt : rightF n ls = true) (hn : hasS ls (a + 1) b = true) (h0 : getF ls (a + 1) b ≠ 0) (hi : hasF (fromF ls r) (a + 1) = true) (ht : hasF (fromF (setF ls (a + 1) b 0) r) (getF ls (a + 1) b) = true) :
    Calls Tryd.prog 9 #[hv n vh, .int .u64 r, .int .u8 o, .int .u8 k] w fun e w' => e = .returned (.bool true) ∧ Below w.heap.size w w' := by
  have GH := hide hh
  have HE := hide hE
  have hB : Below w.heap.size w w := Below.refl _ _
  have hF := hide hf
  have ha : 0 ≤ a ∧ a < 8 := by omega
  have hb4 : 0 ≤ b ∧ b < 4 := by omega
  have hi2 := (from_has hr).1 hi
  have hvm := get_slot hn
  have hvi : inO ls (getF ls (a + 1) b) := by
    have h1 := hasS_iff.1 hn
    have h2 := right_rows hRt (rowF ls (a + 1)) (by rw [rowF_mem ⟨h1.1, h1.2.1⟩]; exact List.getElem_mem _)
    have h3 := h2.2 _ hvm
    have h4 := right_len hRt
    exact ⟨by omega, by omega, by omega⟩
  have hsv : Rch ls allN r (getF ls (a + 1) b) := .step hi2 (has_all _ ⟨hi2.inO.1, hi2.inO.2.1⟩) hvm hvi
  obtain ⟨L, hL⟩ : ∃ L, ls.length = L := ⟨_, rfl⟩
  obtain ⟨S, hS⟩ : ∃ X, fromF ls r = X := ⟨_, rfl⟩
  have hSl : S < 18446744073709551616 := hS ▸ from_lt ls hr
  obtain ⟨Q, hQ⟩ : ∃ R, putF ls (a + 1) b 0 = R := ⟨_, rfl⟩
  obtain ⟨v, hV⟩ : ∃ X, getF ls (a + 1) b = X := ⟨_, rfl⟩
  have hTS : fromF Q r = S := by
    rw [← hS, ← hQ, cut_put hn]
    refine has_ext (from_lt _ hr) (from_lt _ hr) fun x => ?_
    rw [from_has hr, from_has hr]
    exact ⟨cut_less hn, cut_else hn ((from_has hr).1 ht)⟩
  have hT : ((fromF Q r : Nat) : Int) = S := by rw [hTS]
  have hU := hide (show underF S S = true from (under_has hSl hSl).2 fun _ h => h)
  rw [← cut_put hn, hQ, hTS, hV] at ht
  have hHt := hide ht
  clear hTS
  rw [hS] at hi
  rw [hV] at h0 hvi
  have hvb : (v == 0) = false := by simpa using h0
  have hH := hide hi
  have hv1 : 1 ≤ v ∧ v ≤ 64 := ⟨hvi.1, hvi.2.1⟩
  have hOk := hn
  clear h0 hi hi2 hvm hvi hsv ht hn
  have hRt := hide hRt
  have hL := hide hL
  have hQ := hide hQ
  have hV := hide hV
  have hOk := hide hOk
  have hS := hide (show ((fromF ls r : Nat) : Int) = S by rw [hS])
  have hT := hide hT
  clear hh hf hE
  obtain ⟨wp0_, ep0_, hbp0_, hltp0_, -, x0p_, y0p_⟩ := box1 w (.int .i64 n) (vh) 24
  have HEP0_ := hide ep0_
  clear ep0_
  have GH := hide (GH.out.below hbp0_)
  have HE := hide (HE.out.below hbp0_)
  have hB := bcall hB hbp0_
  go_enter Tryd.func9, Tryd.ntmps9
  go_wp2_with fail
  rw [HEP0_.out]
  (with_reducible refine (examples_any _ HE.out).mono ?_)
  rintro e w0_ ⟨rfl, hb0_⟩
  have x0p_ := keepc hb0_ x0p_
  have y0p_ := keepc hb0_ y0p_
  have GH := hide (GH.out.below hb0_)
  have HE := hide (HE.out.below hb0_)
  have hB := bcall hB hb0_
  go_wp2_with fail
  (with_reducible refine (Right_c n _ ls _ GH.out _ hRt.out).mono ?_)
  rintro e w1_ ⟨rfl, hb1_⟩
  have x0p_ := keepc hb1_ x0p_
  have y0p_ := keepc hb1_ y0p_
  have GH := hide (GH.out.below hb1_)
  have HE := hide (HE.out.below hb1_)
  have hB := bcall hB hb1_
  go_wp2_with fail
  (with_reducible refine (From_c n vh ls r _ hr GH.out HE.out _ rfl S hS.out).mono ?_)
  rintro e w2_ ⟨rfl, hb2_⟩
  have x0p_ := keepc hb2_ x0p_
  have y0p_ := keepc hb2_ y0p_
  have GH := hide (GH.out.below hb2_)
  have HE := hide (HE.out.below hb2_)
  have hB := bcall hB hb2_
  go_wp2_with fail
  (with_reducible refine (Get_c n _ ls _ _ _ GH.out v hV.out true hOk.out).mono ?_)
  rintro e w3_ ⟨rfl, hb3_⟩
  have x0p_ := keepc hb3_ x0p_
  have y0p_ := keepc hb3_ y0p_
  have GH := hide (GH.out.below hb3_)
  have HE := hide (HE.out.below hb3_)
  have hB := bcall hB hb3_
  go_wp2_with fail
  (with_reducible refine (Put_c n _ ls _ _ _ _ GH.out hF.out L hL.out Q hQ.out _ rfl).mono ?_)
  rintro e w4_ ⟨A4_, c4_, rfl, p4_, q4_, GN, hb4_⟩
  have x0p_ := keepc hb4_ x0p_
  have y0p_ := keepc hb4_ y0p_
  have GH := hide (GH.out.below hb4_)
  have HE := hide (HE.out.below hb4_)
  have hB := bcall hB hb4_
  have GN := hide GN.out.grid
  obtain ⟨wb4_, eb4_, hbb4_, hlt4_, -, x4_, y4_⟩ := box1 w4_ (.int .i64 n) (.slice A4_ L c4_) 24
  have HEB4_ := hide eb4_
  clear eb4_
  have x0p_a := fun o => keepc (bal w4_ o) x0p_
  have y0p_a := fun o => keepc (bal w4_ o) y0p_
  have x0p_ := keepc hbb4_ x0p_
  have y0p_ := keepc hbb4_ y0p_
  have GH := hide (GH.out.below hbb4_)
  have GN := hide (GN.out.below hbb4_)
  have HE := hide (HE.out.below hbb4_)
  have hB := bcall hB hbb4_
  go_wp2_with fail
  rw [HEB4_.out]
  clear x0p_a y0p_a
  (with_reducible refine (From_c n _ Q r _ hr GN.out HE.out _ rfl S hT.out).mono ?_)
  rintro e w5_ ⟨rfl, hb5_⟩
  have x0p_ := keepc hb5_ x0p_
  have y0p_ := keepc hb5_ y0p_
  have x4_ := keepc hb5_ x4_
  have y4_ := keepc hb5_ y4_
  have GH := hide (GH.out.below hb5_)
  have GN := hide (GN.out.below hb5_)
  have HE := hide (HE.out.below hb5_)
  have hB := bcall hB hb5_
  go_wp2_with fail
  (with_reducible refine (Has_any S (a + 1) _ hSl (by omega) (by omega)).mono ?_)
  rintro e w6_ ⟨rfl, rfl⟩
  rw [hH.out]
  go_wp2_with fail
  (with_reducible refine (Under_any S S _ hSl hSl).mono ?_)
  rintro e w7_ ⟨rfl, rfl⟩
  rw [hU.out]
  go_wp2_with fail
  (with_reducible refine (Has_any S v _ hSl (by omega) (by omega)).mono ?_)
  rintro e w8_ ⟨rfl, rfl⟩
  rw [hHt.out]
  go_wp2
  go_ret
  exact ⟨rfl, hB⟩

set_option maxRecDepth 100000 in
set_option maxHeartbeats 8000000 in
theorem walk_lost (n : Int) (vh : Value) (ls : Rws) (r : Nat) (o k a b : Int) (w : World) (hh : Grid w vh ls) (hf : Fit ls) (hr : r < 18446744073709551616) (ho : 0 ≤ o ∧ o ≤ 255) (hk : 0 ≤ k ∧ k ≤ 255) (hE : EnvT w) (ea : o % 8 = a) (eb : k % 4 = b) (hRt : rightF n ls = true) (hn : hasS ls (a + 1) b = true) (h0 : getF ls (a + 1) b ≠ 0) (hi : hasF (fromF ls r) (a + 1) = true) (ht : hasF (fromF (setF ls (a + 1) b 0) r) (getF ls (a + 1) b) = false) :
    Calls Tryd.prog 9 #[hv n vh, .int .u64 r, .int .u8 o, .int .u8 k] w fun e w' => e = .returned (.bool true) ∧ Below w.heap.size w w' := by
  have GH := hide hh
  have HE := hide hE
  have hB : Below w.heap.size w w := Below.refl _ _
  have hF := hide hf
  have ha : 0 ≤ a ∧ a < 8 := by omega
  have hb4 : 0 ≤ b ∧ b < 4 := by omega
  have hi2 := (from_has hr).1 hi
  have hvm := get_slot hn
  have hvi : inO ls (getF ls (a + 1) b) := by
    have h1 := hasS_iff.1 hn
    have h2 := right_rows hRt (rowF ls (a + 1)) (by rw [rowF_mem ⟨h1.1, h1.2.1⟩]; exact List.getElem_mem _)
    have h3 := h2.2 _ hvm
    have h4 := right_len hRt
    exact ⟨by omega, by omega, by omega⟩
  have hsv : Rch ls allN r (getF ls (a + 1) b) := .step hi2 (has_all _ ⟨hi2.inO.1, hi2.inO.2.1⟩) hvm hvi
  obtain ⟨L, hL⟩ : ∃ L, ls.length = L := ⟨_, rfl⟩
  obtain ⟨S, hS⟩ : ∃ X, fromF ls r = X := ⟨_, rfl⟩
  have hSl : S < 18446744073709551616 := hS ▸ from_lt ls hr
  obtain ⟨Q, hQ⟩ : ∃ R, putF ls (a + 1) b 0 = R := ⟨_, rfl⟩
  obtain ⟨v, hV⟩ : ∃ X, getF ls (a + 1) b = X := ⟨_, rfl⟩
  obtain ⟨T, hTT⟩ : ∃ X, fromF Q r = X := ⟨_, rfl⟩
  have hTl : T < 18446744073709551616 := hTT ▸ from_lt Q hr
  have hT : ((fromF Q r : Nat) : Int) = T := by rw [hTT]
  have hne : T ≠ S := fun e => by
    rw [← cut_put hn, hQ, hTT, e, ← hS, (from_has hr).2 hsv] at ht
    cases ht
  have hneb : ((T : Int) == (S : Int)) = false := by rw [beq_eq_false_iff_ne]; omega
  have hU := hide (show underF T S = true from (under_has hTl hSl).2 fun x h => by
    rw [← hTT, ← hQ, cut_put hn] at h
    rw [← hS]
    exact (from_has hr).2 (cut_less hn ((from_has hr).1 h)))
  rw [← cut_put hn, hQ, hTT, hV] at ht
  have hHt := hide ht
  clear hne hTT
  rw [hS] at hi
  rw [hV] at h0 hvi
  have hvb : (v == 0) = false := by simpa using h0
  have hH := hide hi
  have hv1 : 1 ≤ v ∧ v ≤ 64 := ⟨hvi.1, hvi.2.1⟩
  have hOk := hn
  clear h0 hi hi2 hvm hvi hsv ht hn
  have hRt := hide hRt
  have hL := hide hL
  have hQ := hide hQ
  have hV := hide hV
  have hOk := hide hOk
  have hS := hide (show ((fromF ls r : Nat) : Int) = S by rw [hS])
  have hT := hide hT
  clear hh hf hE
  obtain ⟨wp0_, ep0_, hbp0_, hltp0_, -, x0p_, y0p_⟩ := box1 w (.int .i64 n) (vh) 24
  have HEP0_ := hide ep0_
  clear ep0_
  have GH := hide (GH.out.below hbp0_)
  have HE := hide (HE.out.below hbp0_)
  have hB := bcall hB hbp0_
  go_enter Tryd.func9, Tryd.ntmps9
  go_wp2_with fail
  rw [HEP0_.out]
  (with_reducible refine (examples_any _ HE.out).mono ?_)
  rintro e w0_ ⟨rfl, hb0_⟩
  have x0p_ := keepc hb0_ x0p_
  have y0p_ := keepc hb0_ y0p_
  have GH := hide (GH.out.below hb0_)
  have HE := hide (HE.out.below hb0_)
  have hB := bcall hB hb0_
  go_wp2_with fail
  (with_reducible refine (Right_c n _ ls _ GH.out _ hRt.out).mono ?_)
  rintro e w1_ ⟨rfl, hb1_⟩
  have x0p_ := keepc hb1_ x0p_
  have y0p_ := keepc hb1_ y0p_
  have GH := hide (GH.out.below hb1_)
  have HE := hide (HE.out.below hb1_)
  have hB := bcall hB hb1_
  go_wp2_with fail
  (with_reducible refine (From_c n vh ls r _ hr GH.out HE.out _ rfl S hS.out).mono ?_)
  rintro e w2_ ⟨rfl, hb2_⟩
  have x0p_ := keepc hb2_ x0p_
  have y0p_ := keepc hb2_ y0p_
  have GH := hide (GH.out.below hb2_)
  have HE := hide (HE.out.below hb2_)
  have hB := bcall hB hb2_
  go_wp2_with fail
  (with_reducible refine (Get_c n _ ls _ _ _ GH.out v hV.out true hOk.out).mono ?_)
  rintro e w3_ ⟨rfl, hb3_⟩
  have x0p_ := keepc hb3_ x0p_
  have y0p_ := keepc hb3_ y0p_
  have GH := hide (GH.out.below hb3_)
  have HE := hide (HE.out.below hb3_)
  have hB := bcall hB hb3_
  go_wp2_with fail
  (with_reducible refine (Put_c n _ ls _ _ _ _ GH.out hF.out L hL.out Q hQ.out _ rfl).mono ?_)
  rintro e w4_ ⟨A4_, c4_, rfl, p4_, q4_, GN, hb4_⟩
  have x0p_ := keepc hb4_ x0p_
  have y0p_ := keepc hb4_ y0p_
  have GH := hide (GH.out.below hb4_)
  have HE := hide (HE.out.below hb4_)
  have hB := bcall hB hb4_
  have GN := hide GN.out.grid
  obtain ⟨wb4_, eb4_, hbb4_, hlt4_, -, x4_, y4_⟩ := box1 w4_ (.int .i64 n) (.slice A4_ L c4_) 24
  have HEB4_ := hide eb4_
  clear eb4_
  have x0p_a := fun o => keepc (bal w4_ o) x0p_
  have y0p_a := fun o => keepc (bal w4_ o) y0p_
  have x0p_ := keepc hbb4_ x0p_
  have y0p_ := keepc hbb4_ y0p_
  have GH := hide (GH.out.below hbb4_)
  have GN := hide (GN.out.below hbb4_)
  have HE := hide (HE.out.below hbb4_)
  have hB := bcall hB hbb4_
  go_wp2_with fail
  rw [HEB4_.out]
  clear x0p_a y0p_a
  (with_reducible refine (From_c n _ Q r _ hr GN.out HE.out _ rfl T hT.out).mono ?_)
  rintro e w5_ ⟨rfl, hb5_⟩
  have x0p_ := keepc hb5_ x0p_
  have y0p_ := keepc hb5_ y0p_
  have x4_ := keepc hb5_ x4_
  have y4_ := keepc hb5_ y4_
  have GH := hide (GH.out.below hb5_)
  have GN := hide (GN.out.below hb5_)
  have HE := hide (HE.out.below hb5_)
  have hB := bcall hB hb5_
  go_wp2_with fail
  (with_reducible refine (Has_any S (a + 1) _ hSl (by omega) (by omega)).mono ?_)
  rintro e w6_ ⟨rfl, rfl⟩
  rw [hH.out]
  go_wp2_with fail
  (with_reducible refine (Under_any T S _ hTl hSl).mono ?_)
  rintro e w7_ ⟨rfl, rfl⟩
  rw [hU.out]
  go_wp2_with fail
  (with_reducible refine (Has_any T v _ hTl (by omega) (by omega)).mono ?_)
  rintro e w8_ ⟨rfl, rfl⟩
  rw [hHt.out]
  go_wp2
  go_ret
  exact ⟨rfl, hB⟩

theorem walk (n : Int) (vh : Value) (ls : Rws) (r : Nat) (o k : Int) (w : World) (hh : Grid w vh ls) (hf : Fit ls) (hr : r < 18446744073709551616) (ho : 0 ≤ o ∧ o ≤ 255) (hk : 0 ≤ k ∧ k ≤ 255) (hE : EnvT w) :
    Calls Tryd.prog 9 #[hv n vh, .int .u64 r, .int .u8 o, .int .u8 k] w fun e w' => e = .returned (.bool true) ∧ Below w.heap.size w w' := by
  cases hR : rightF n ls with
  | false => exact walk_wrong n vh ls r o k _ _ w hh hf hr ho hk hE rfl rfl hR
  | true =>
    cases hn : hasS ls (o % 8 + 1) (k % 4) with
    | false => exact walk_none n vh ls r o k _ _ w hh hf hr ho hk hE rfl rfl hR hn
    | true =>
      by_cases h0 : getF ls (o % 8 + 1) (k % 4) = 0
      · exact walk_zero n vh ls r o k _ _ w hh hf hr ho hk hE rfl rfl hR hn h0
      · cases hi : hasF (fromF ls r) (o % 8 + 1) with
        | false => exact walk_off n vh ls r o k _ _ w hh hf hr ho hk hE rfl rfl hR hn h0 hi
        | true =>
          cases ht : hasF (fromF (setF ls (o % 8 + 1) (k % 4) 0) r) (getF ls (o % 8 + 1) (k % 4)) with
          | true => exact walk_yes n vh ls r o k _ _ w hh hf hr ho hk hE rfl rfl hR hn h0 hi ht
          | false => exact walk_lost n vh ls r o k _ _ w hh hf hr ho hk hE rfl rfl hR hn h0 hi ht

set_option maxRecDepth 100000 in
theorem lifted (os : Os) (started : os.Started) (H : Type) (enc : TypeId × Value → H) :
    ReturnsInHanded {} Tryd.checked os 9 .any (fun w args => (Rows.reachCutSpec.pre enc Tryd.prog Tryd.f9 Rows.reachCutRow.domain false w args ∧ laidMetH Tryd.prog Rows.reachCutRow.laid w) ∧ sizedMet enc Tryd.prog Tryd.f9 (OpenSpec.ofChange Rows.reachCutSpec) false w args) (Rows.reachCutSpec.post enc Tryd.prog Tryd.f9 false true false false) := by
  refine handed_and_shaped (C := Tryd.checked) (X := fun w _ => laidMetH Tryd.prog Rows.reachCutRow.laid w) (fun _ _ _ hh h => h.of_heap hh) ownL started (by kernel_rfl) Tryd.func9
    (ChangeSpec.witness_shaped (enc := enc) (C := Tryd.checked) (os := os) (X := fun w _ => laidMetH Tryd.prog Rows.reachCutRow.laid w) false (World.laidAll Tryd.prog os Rows.reachCutRow.laid) #[.agg #[.int .i64 0, .slice none 0 0], .int .u64 0, .int .u8 0, .int .u8 0] 8 (World.laidAll_os _ _ _)
      (World.shaped_of_ZipB (by kernel_rfl) (by kernel_rfl)) (by kernel_rfl) (by kernel_rfl) (by kernel_rfl)
      (by rw [MakeChecks.laidMetH_plain _ _ _ (by kernel_rfl)]; exact laidMet_laidAll _ (by kernel_rfl) (by kernel_rfl))) ?_
  intro W base args ds gs before hval0 hW hsz0 hL hsh
  have hval : ∀ (j : Nat) t v, Tryd.f9.params[j]? = some t → args[j]? = some v → Value.okWide Tryd.prog W .any base t v := hval0
  have hW' := hW
  obtain ⟨p, q, hA0, hV, rfl, hfz, hnd⟩ := hW
  have hA : DataW.TrodAll enc Tryd.prog W 0 (fun _ => true) true Tryd.f9.params.toList args.toList ds p := hA0
  rw [Tryd.params9] at hA hval
  obtain ⟨v0, vs0, d0, ds0, p0, q0, hargs, rfl, rfl, h0, r0⟩ := trodAll_cons hA
  obtain ⟨v1, vs1, d1, ds1, p1, q1, rfl, rfl, rfl, h1, r1⟩ := trodAll_cons r0
  obtain ⟨v2, vs2, d2, ds2, p2, q2, rfl, rfl, rfl, h2, r2⟩ := trodAll_cons r1
  obtain ⟨v3, vs3, d3, ds3, p3, q3, rfl, rfl, rfl, h3, r3⟩ := trodAll_cons r2
  obtain ⟨rfl, rfl, rfl⟩ := trodAll_nil r3
  obtain rfl : args = #[v0, v1, v2, v3] := by cases args; simp_all
  obtain ⟨rfl, rfl⟩ := trodVars_none hV
  obtain ⟨n0, u0, ls0, rfl, hg0, hn0, hr0, hf0⟩ := open_heap (hval 0 24 v0 rfl rfl) h0
  obtain ⟨a1, rfl, rfl, rfl, w1⟩ := open_int Tryd.underlying53 (hval 1 53 v1 rfl rfl) h1
  have hx1 : 0 ≤ a1 ∧ a1 ≤ 18446744073709551615 := by simpa [Lit.wf, IntKind.min, IntKind.max, IntKind.signed, IntKind.bits] using w1
  obtain ⟨n1, rfl⟩ : ∃ n : Nat, a1 = n := ⟨a1.toNat, by omega⟩
  obtain ⟨a2, rfl, rfl, rfl, w2⟩ := open_int Tryd.underlying5 (hval 2 5 v2 rfl rfl) h2
  have hx2 : 0 ≤ a2 ∧ a2 ≤ 255 := by simpa [Lit.wf, IntKind.min, IntKind.max, IntKind.signed, IntKind.bits] using w2
  obtain ⟨a3, rfl, rfl, rfl, w3⟩ := open_int Tryd.underlying5 (hval 3 5 v3 rfl rfl) h3
  have hx3 : 0 ≤ a3 ∧ a3 ≤ 255 := by simpa [Lit.wf, IntKind.min, IntKind.max, IntKind.signed, IntKind.bits] using w3
  have hsz : (DataW.weightsEach Tryd.prog [24, 53, 5, 5] ([d0, .lit (.int .u64 n1), .lit (.int .u8 a2), .lit (.int .u8 a3)] : List (DataW H))).all (· ≤ reachBytes) = true := hsz0
  have e0 : Fit ls0 := hf0 fun k hk => by have h1 := List.all_eq_true.1 hsz k (DataW.weights_mem_each (j := 0) rfl rfl k hk); simpa [reachBytes] using of_decide_eq_true h1
  have hE := envT_of_laid hL
  refine (walk n0 _ ls0 n1 a2 a3 W hg0 e0 (by omega) hx2 hx3 hE).mono fun e W' ⟨he, hg⟩ => ?_
  subst he
  exact ⟨_, rfl, law_post laidOutL (by kernel_rfl) rfl Tryd.underlying4 rfl ⟨rfl, rfl, rfl⟩ hW' hg⟩
theorem row_holds : Rows.ReachCutSaid :=
  OpenClaim.holds_of_wide 9 Tryd.f9 rfl rfl rfl rfl rfl rfl rfl ⟨rfl, rfl, rfl, rfl, rfl⟩ rfl rfl rfl rfl rfl (by kernel_rfl) Tryd.func9 (by kernel_rfl)
    (of_decide_eq_true (by kernel_rfl)) (by unfold Func.isWrapper; first | (rw [if_pos (by decide +kernel)]; kernel_rfl) | (rw [if_neg (by decide +kernel)]; exact ⟨rfl, rfl⟩))
    (fun os started H enc _ => lifted os started H enc)

/-- THE STATEMENT -/
theorem proved : Rows.ReachCutCardSaid :=
  Claim7.holds_tied_plain_at .later [] Rows.reachCutCard.laidKinds true Rows.reachCutCard.stood.harness Rows.reachCutCard.stood.looks
    row_holds (fun _ h => by cases h) (by kernel_rfl) (fun _ h => by cases h) reachCut_row_tie rfl ⟨rfl, rfl⟩ (by kernel_rfl) rfl
    (fun f fn hf hfn => by
      obtain rfl : f = 9 := Option.some.inj ((show Tryd.prog.funcNamed Rows.reachCutRow.func = some 9 by kernel_rfl).symm.trans hf) |>.symm
      obtain rfl : fn = Tryd.f9 := (Option.some.inj (Tryd.func9.symm.trans hfn)).symm
      exact ⟨by kernel_rfl, fun j t ht => by
        rw [Tryd.params9] at ht
        have hm : t ∈ [24, 53, 5, 5] := by simpa using Array.mem_of_getElem? ht
        have hall : ([24, 53, 5, 5].all fun u => !Tryd.prog.wantsStandIn u) = true := by kernel_rfl
        exact (show Tryd.prog.wantsStandIn t = false by simpa using List.all_eq_true.1 hall t hm)⟩)
    (by kernel_rfl)
end Go.Proofs.YtohfpcnekfpdkaaDoor.lawReachCut
