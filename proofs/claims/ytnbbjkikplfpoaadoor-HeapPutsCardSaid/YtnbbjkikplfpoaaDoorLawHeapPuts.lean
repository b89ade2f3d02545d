/- HeapPuts: for any heap and any place and value: what a put answers is what is read after; the heap it was put in is as it was; every other place is as it was. No condition beside the listed tables, which the card ties to the text. -/
import Derived.Test.YtnbbjkikplfpoaaDoorHeapTied
import Derived.Test.YtnbbjkikplfpoaaDoorQuietB
import Derived.Test.YtnbbjkikplfpoaaDoorHeapPutP
namespace Go.Proofs.YtnbbjkikplfpoaaDoor.lawHeapPuts
open Go.RowKit Go.WideShapes Go.ChangeShapes Go.ChangeAt Go.Shelf Go.Proofs Go.Proofs.YtnbbjkikplfpoaaDoor

set_option maxRecDepth 100000 in
set_option maxHeartbeats 8000000 in
theorem walk_no (n : Int) (vh : Value) (ls : Rws) (o s v p q a b z p1 q1 : Int) (w : World) (hh : Grid w vh ls) (hf : Fit ls) (ho : 0 ≤ o ∧ o ≤ 255) (hs : 0 ≤ s ∧ s ≤ 255) (hvv : 0 ≤ v ∧ v ≤ 255) (hpp : 0 ≤ p ∧ p ≤ 255) (hqq : 0 ≤ q ∧ q ≤ 255) (hE : EnvH w) (ea : o % 8 = a) (eb : s % 5 = b) (ez : v % 8 = z) (ep : p % 8 = p1) (eq : q % 5 = q1) (hk : putOk ls a b z = false) :
    Calls Tryd.prog 4 #[hv n vh, .int .u8 o, .int .u8 s, .int .u8 v, .int .u8 p, .int .u8 q] w fun e w' => e = .returned (.bool true) ∧ Below w.heap.size w w' := by
  have GH := hide hh
  obtain ⟨A, c, rfl, h1, h2⟩ := hh.form
  unfold maxLen at h2
  obtain ⟨L, hL⟩ : ∃ L, ls.length = L := ⟨_, rfl⟩
  rw [hL] at GH h1 ⊢
  obtain ⟨x, hx⟩ : ∃ x, getF ls a b = x := ⟨_, rfl⟩
  obtain ⟨u, hu⟩ : ∃ x, getF ls p1 q1 = x := ⟨_, rfl⟩
  obtain ⟨iu, hiu⟩ : ∃ x, hasS ls p1 q1 = x := ⟨_, rfl⟩
  obtain ⟨R, hR⟩ : ∃ R, putF ls a b z = R := ⟨_, rfl⟩
  obtain ⟨ra, hra⟩ : ∃ r, rightF n ls = r := ⟨_, rfl⟩
  obtain ⟨ta, hta⟩ : ∃ t : ByteArray, textF n ls = t.data.toList := ⟨⟨(textF n ls).toArray⟩, rfl⟩
  have hiu2 := hide (show hasS R p1 q1 = iu by rw [← hR, has_put]; exact hiu)
  obtain ⟨had, hhad⟩ : ∃ h, hasS ls a b = h := ⟨_, rfl⟩
  have hRl : R = ls := by rw [← hR]; exact put_not hk
  have hlz := hide (show had = true → (L : Int) < z from fun h => by
    have h4 : mayF ls z = false := by
      unfold putOk at hk; rw [hhad, h, Bool.true_and] at hk; exact hk
    unfold mayF at h4; rw [decide_eq_false_iff_not, hL] at h4; omega)
  have hsm := hide (show sameF n R n ls = true by rw [hRl]; unfold sameF; simp)
  have hy := hide (show getF R a b = x by rw [hRl]; exact hx)
  have his := hide (show hasS R a b = had by rw [hRl]; exact hhad)
  have hw := hide (show getF R p1 q1 = u by rw [hRl]; exact hu)
  have hok := hide hk
  have hhad := hide hhad
  clear hRl hk
  have hL := hide hL
  have hx := hide hx
  have hu := hide hu
  have hiu := hide hiu
  have hR := hide hR
  have hra := hide hra
  have hta := hide hta
  have hF := hide hf
  have HE := hide hE
  have hB : Below w.heap.size w w := Below.refl _ _
  clear hh hf hE
  obtain ⟨wp0_, ep0_, hbp0_, hltp0_, -, x0p_, y0p_⟩ := box1 w (.int .i64 n) (.slice A L c) 24
  have HEP0_ := hide ep0_
  clear ep0_
  have GH := hide (GH.out.below hbp0_)
  have HE := hide (HE.out.below hbp0_)
  have hB := bcall hB hbp0_
  go_enter Tryd.func4, Tryd.ntmps4
  go_wp2_with fail
  rw [HEP0_.out]
  (with_reducible refine (examples_any _ HE.out).mono ?_)
  rintro e w0_ ⟨rfl, hb0_⟩
  have x0p_ := keepc hb0_ x0p_
  have y0p_ := keepc hb0_ y0p_
  have GH := hide (GH.out.below hb0_)
  have hB := bcall hB hb0_
  go_wp2_with fail
  (with_reducible refine (Text_c n _ ls _ GH.out ta hta.out).mono ?_)
  rintro e w1_ ⟨rfl, hb1_⟩
  have x0p_ := keepc hb1_ x0p_
  have y0p_ := keepc hb1_ y0p_
  have GH := hide (GH.out.below hb1_)
  have hB := bcall hB hb1_
  go_wp2_with fail
  (with_reducible refine (Get_c n _ ls _ _ _ GH.out x hx.out _ hhad.out).mono ?_)
  rintro e w2_ ⟨rfl, hb2_⟩
  have x0p_ := keepc hb2_ x0p_
  have y0p_ := keepc hb2_ y0p_
  have GH := hide (GH.out.below hb2_)
  have hB := bcall hB hb2_
  go_wp2_with fail
  (with_reducible refine (Put_c n _ ls _ _ _ _ GH.out hF.out L hL.out R hR.out _ hok.out).mono ?_)
  rintro e w3_ ⟨A3_, c3_, rfl, p3_, q3_, GN, hb3_⟩
  have x0p_ := keepc hb3_ x0p_
  have y0p_ := keepc hb3_ y0p_
  have GH := hide (GH.out.below hb3_)
  have hB := bcall hB hb3_
  have GN := hide GN.out.grid
  obtain ⟨wb3_, eb3_, hbb3_, hlt3_, -, x3_, y3_⟩ := box1 w3_ (.int .i64 n) (.slice A3_ L c3_) 24
  have HEB3_ := hide eb3_
  clear eb3_
  have x0p_a := fun o => keepc (bal w3_ o) x0p_
  have y0p_a := fun o => keepc (bal w3_ o) y0p_
  have x0p_ := keepc hbb3_ x0p_
  have y0p_ := keepc hbb3_ y0p_
  have GH := hide (GH.out.below hbb3_)
  have GN := hide (GN.out.below hbb3_)
  have hB := bcall hB hbb3_
  go_wp2_with fail
  rw [HEB3_.out]
  clear x0p_a y0p_a
  (with_reducible refine (Get_c n _ R _ _ _ GN.out _ hy.out _ his.out).mono ?_)
  rintro e w4_ ⟨rfl, hb4_⟩
  have x0p_ := keepc hb4_ x0p_
  have y0p_ := keepc hb4_ y0p_
  have x3_ := keepc hb4_ x3_
  have y3_ := keepc hb4_ y3_
  have GH := hide (GH.out.below hb4_)
  have GN := hide (GN.out.below hb4_)
  have hB := bcall hB hb4_
  go_wp2_with fail
  (with_reducible refine (Get_c n _ ls _ _ _ GH.out u hu.out _ hiu.out).mono ?_)
  rintro e w5_ ⟨rfl, hb5_⟩
  have x0p_ := keepc hb5_ x0p_
  have y0p_ := keepc hb5_ y0p_
  have x3_ := keepc hb5_ x3_
  have y3_ := keepc hb5_ y3_
  have GH := hide (GH.out.below hb5_)
  have GN := hide (GN.out.below hb5_)
  have hB := bcall hB hb5_
  go_wp2_with fail
  (with_reducible refine (Get_c n _ R _ _ _ GN.out _ hw.out _ hiu2.out).mono ?_)
  rintro e w6_ ⟨rfl, hb6_⟩
  have x0p_ := keepc hb6_ x0p_
  have y0p_ := keepc hb6_ y0p_
  have x3_ := keepc hb6_ x3_
  have y3_ := keepc hb6_ y3_
  have GH := hide (GH.out.below hb6_)
  have GN := hide (GN.out.below hb6_)
  have hB := bcall hB hb6_
  cases had with
  | false =>
    go_wp2_with fail
    (with_reducible refine (Same_c n n _ _ R ls _ GN.out GH.out true hsm.out).mono ?_)
    rintro e w7_ ⟨rfl, hb7_⟩
    have x0p_ := keepc hb7_ x0p_
    have y0p_ := keepc hb7_ y0p_
    have x3_ := keepc hb7_ x3_
    have y3_ := keepc hb7_ y3_
    have GH := hide (GH.out.below hb7_)
    have GN := hide (GN.out.below hb7_)
    have hB := bcall hB hb7_
    go_wp2
    go_ret
    exact ⟨rfl, hB⟩
  | true =>
    have hz := hlz.out rfl
    go_wp2_with fail
    (with_reducible refine (Same_c n n _ _ R ls _ GN.out GH.out true hsm.out).mono ?_)
    rintro e w7_ ⟨rfl, hb7_⟩
    have x0p_ := keepc hb7_ x0p_
    have y0p_ := keepc hb7_ y0p_
    have x3_ := keepc hb7_ x3_
    have y3_ := keepc hb7_ y3_
    have GH := hide (GH.out.below hb7_)
    have GN := hide (GN.out.below hb7_)
    have hB := bcall hB hb7_
    go_wp2
    go_ret
    exact ⟨rfl, hB⟩


set_option maxRecDepth 100000 in
set_option maxHeartbeats 8000000 in
theorem walk_at (n : Int) (vh : Value) (ls : Rws) (o s v p q a b z : Int) (w : World) (hh : Grid w vh ls) (hf : Fit ls) (ho : 0 ≤ o ∧ o ≤ 255) (hs : 0 ≤ s ∧ s ≤ 255) (hvv : 0 ≤ v ∧ v ≤ 255) (hpp : 0 ≤ p ∧ p ≤ 255) (hqq : 0 ≤ q ∧ q ≤ 255) (hE : EnvH w) (ea : o % 8 = a) (eb : s % 5 = b) (ez : v % 8 = z) (ep : p % 8 = a) (eq : q % 5 = b) (hk : putOk ls a b z = true) :
    Calls Tryd.prog 4 #[hv n vh, .int .u8 o, .int .u8 s, .int .u8 v, .int .u8 p, .int .u8 q] w fun e w' => e = .returned (.bool true) ∧ Below w.heap.size w w' := by
  have GH := hide hh
  obtain ⟨A, c, rfl, h1, h2⟩ := hh.form
  unfold maxLen at h2
  obtain ⟨L, hL⟩ : ∃ L, ls.length = L := ⟨_, rfl⟩
  rw [hL] at GH h1 ⊢
  obtain ⟨x, hx⟩ : ∃ x, getF ls a b = x := ⟨_, rfl⟩
  obtain ⟨u, hu⟩ : ∃ x, getF ls a b = x := ⟨_, rfl⟩
  obtain ⟨iu, hiu⟩ : ∃ x, hasS ls a b = x := ⟨_, rfl⟩
  obtain ⟨R, hR⟩ : ∃ R, putF ls a b z = R := ⟨_, rfl⟩
  obtain ⟨ra, hra⟩ : ∃ r, rightF n ls = r := ⟨_, rfl⟩
  obtain ⟨ta, hta⟩ : ∃ t : ByteArray, textF n ls = t.data.toList := ⟨⟨(textF n ls).toArray⟩, rfl⟩
  have hiu2 := hide (show hasS R a b = iu by rw [← hR, has_put]; exact hiu)
  have hhad := hide (put_ok hk).1
  obtain ⟨sm, hsm⟩ : ∃ b, sameF n ls n R = b := ⟨_, rfl⟩
  have hxz := hide (show (x == z) = sm by rw [← hx, ← hsm, ← hR]; exact same_put hk)
  have hrr := hide (show ra = true → rightF n R = true from fun h => by rw [← hR]; exact right_put (hra.trans h))
  have hy := hide (show getF R a b = z by rw [← hR]; exact get_put hk)
  have his := hide (show hasS R a b = true by rw [← hR, has_put]; exact (put_ok hk).1)
  have hsm := hide hsm
  have hok := hide hk
  have hw := hide (show getF R a b = z by rw [← hR]; exact get_put hk)
  clear hk
  have hL := hide hL
  have hx := hide hx
  have hu := hide hu
  have hiu := hide hiu
  have hR := hide hR
  have hra := hide hra
  have hta := hide hta
  have hF := hide hf
  have HE := hide hE
  have hB : Below w.heap.size w w := Below.refl _ _
  clear hh hf hE
  obtain ⟨wp0_, ep0_, hbp0_, hltp0_, -, x0p_, y0p_⟩ := box1 w (.int .i64 n) (.slice A L c) 24
  have HEP0_ := hide ep0_
  clear ep0_
  have GH := hide (GH.out.below hbp0_)
  have HE := hide (HE.out.below hbp0_)
  have hB := bcall hB hbp0_
  go_enter Tryd.func4, Tryd.ntmps4
  go_wp2_with fail
  rw [HEP0_.out]
  (with_reducible refine (examples_any _ HE.out).mono ?_)
  rintro e w0_ ⟨rfl, hb0_⟩
  have x0p_ := keepc hb0_ x0p_
  have y0p_ := keepc hb0_ y0p_
  have GH := hide (GH.out.below hb0_)
  have hB := bcall hB hb0_
  go_wp2_with fail
  (with_reducible refine (Text_c n _ ls _ GH.out ta hta.out).mono ?_)
  rintro e w1_ ⟨rfl, hb1_⟩
  have x0p_ := keepc hb1_ x0p_
  have y0p_ := keepc hb1_ y0p_
  have GH := hide (GH.out.below hb1_)
  have hB := bcall hB hb1_
  go_wp2_with fail
  (with_reducible refine (Get_c n _ ls _ _ _ GH.out x hx.out _ hhad.out).mono ?_)
  rintro e w2_ ⟨rfl, hb2_⟩
  have x0p_ := keepc hb2_ x0p_
  have y0p_ := keepc hb2_ y0p_
  have GH := hide (GH.out.below hb2_)
  have hB := bcall hB hb2_
  go_wp2_with fail
  (with_reducible refine (Put_c n _ ls _ _ _ _ GH.out hF.out L hL.out R hR.out _ hok.out).mono ?_)
  rintro e w3_ ⟨A3_, c3_, rfl, p3_, q3_, GN, hb3_⟩
  have x0p_ := keepc hb3_ x0p_
  have y0p_ := keepc hb3_ y0p_
  have GH := hide (GH.out.below hb3_)
  have hB := bcall hB hb3_
  have GN := hide GN.out.grid
  obtain ⟨wb3_, eb3_, hbb3_, hlt3_, -, x3_, y3_⟩ := box1 w3_ (.int .i64 n) (.slice A3_ L c3_) 24
  have HEB3_ := hide eb3_
  clear eb3_
  have x0p_a := fun o => keepc (bal w3_ o) x0p_
  have y0p_a := fun o => keepc (bal w3_ o) y0p_
  have x0p_ := keepc hbb3_ x0p_
  have y0p_ := keepc hbb3_ y0p_
  have GH := hide (GH.out.below hbb3_)
  have GN := hide (GN.out.below hbb3_)
  have hB := bcall hB hbb3_
  go_wp2_with fail
  rw [HEB3_.out]
  clear x0p_a y0p_a
  (with_reducible refine (Get_c n _ R _ _ _ GN.out _ hy.out _ his.out).mono ?_)
  rintro e w4_ ⟨rfl, hb4_⟩
  have x0p_ := keepc hb4_ x0p_
  have y0p_ := keepc hb4_ y0p_
  have x3_ := keepc hb4_ x3_
  have y3_ := keepc hb4_ y3_
  have GH := hide (GH.out.below hb4_)
  have GN := hide (GN.out.below hb4_)
  have hB := bcall hB hb4_
  go_wp2_with fail
  (with_reducible refine (Get_c n _ ls _ _ _ GH.out u hu.out _ hiu.out).mono ?_)
  rintro e w5_ ⟨rfl, hb5_⟩
  have x0p_ := keepc hb5_ x0p_
  have y0p_ := keepc hb5_ y0p_
  have x3_ := keepc hb5_ x3_
  have y3_ := keepc hb5_ y3_
  have GH := hide (GH.out.below hb5_)
  have GN := hide (GN.out.below hb5_)
  have hB := bcall hB hb5_
  go_wp2_with fail
  (with_reducible refine (Get_c n _ R _ _ _ GN.out _ hw.out _ hiu2.out).mono ?_)
  rintro e w6_ ⟨rfl, hb6_⟩
  have x0p_ := keepc hb6_ x0p_
  have y0p_ := keepc hb6_ y0p_
  have x3_ := keepc hb6_ x3_
  have y3_ := keepc hb6_ y3_
  have GH := hide (GH.out.below hb6_)
  have GN := hide (GN.out.below hb6_)
  have hB := bcall hB hb6_
  go_wp2_with fail
  (with_reducible refine (Text_c n _ ls _ GH.out ta hta.out).mono ?_)
  rintro e w7_ ⟨rfl, hb7_⟩
  have x0p_ := keepc hb7_ x0p_
  have y0p_ := keepc hb7_ y0p_
  have x3_ := keepc hb7_ x3_
  have y3_ := keepc hb7_ y3_
  have GH := hide (GH.out.below hb7_)
  have GN := hide (GN.out.below hb7_)
  have hB := bcall hB hb7_
  cases ra with
  | false =>
    go_wp2_with fail
    (with_reducible refine (Right_c n _ ls _ GH.out _ hra.out).mono ?_)
    rintro e w8_ ⟨rfl, hb8_⟩
    have x0p_ := keepc hb8_ x0p_
    have y0p_ := keepc hb8_ y0p_
    have x3_ := keepc hb8_ x3_
    have y3_ := keepc hb8_ y3_
    have GH := hide (GH.out.below hb8_)
    have GN := hide (GN.out.below hb8_)
    have hB := bcall hB hb8_
    cases sm with
    | false =>
      have hxe := hxz.out
      go_wp2_with fail
      (with_reducible refine (Same_c n n _ _ ls R _ GH.out GN.out _ hsm.out).mono ?_)
      rintro e w9_ ⟨rfl, hb9_⟩
      have x0p_ := keepc hb9_ x0p_
      have y0p_ := keepc hb9_ y0p_
      have x3_ := keepc hb9_ x3_
      have y3_ := keepc hb9_ y3_
      have GH := hide (GH.out.below hb9_)
      have GN := hide (GN.out.below hb9_)
      have hB := bcall hB hb9_
      go_wp2
      go_ret
      exact ⟨rfl, hB⟩
    | true =>
      have hxe := hxz.out
      go_wp2_with fail
      (with_reducible refine (Same_c n n _ _ ls R _ GH.out GN.out _ hsm.out).mono ?_)
      rintro e w9_ ⟨rfl, hb9_⟩
      have x0p_ := keepc hb9_ x0p_
      have y0p_ := keepc hb9_ y0p_
      have x3_ := keepc hb9_ x3_
      have y3_ := keepc hb9_ y3_
      have GH := hide (GH.out.below hb9_)
      have GN := hide (GN.out.below hb9_)
      have hB := bcall hB hb9_
      go_wp2
      go_ret
      exact ⟨rfl, hB⟩
  | true =>
    have hrn := hide (hrr.out rfl)
    go_wp2_with fail
    (with_reducible refine (Right_c n _ ls _ GH.out _ hra.out).mono ?_)
    rintro e w8_ ⟨rfl, hb8_⟩
    have x0p_ := keepc hb8_ x0p_
    have y0p_ := keepc hb8_ y0p_
    have x3_ := keepc hb8_ x3_
    have y3_ := keepc hb8_ y3_
    have GH := hide (GH.out.below hb8_)
    have GN := hide (GN.out.below hb8_)
    have hB := bcall hB hb8_
    go_wp2_with fail
    (with_reducible refine (Right_c n _ R _ GN.out true hrn.out).mono ?_)
    rintro e w9_ ⟨rfl, hb9_⟩
    have x0p_ := keepc hb9_ x0p_
    have y0p_ := keepc hb9_ y0p_
    have x3_ := keepc hb9_ x3_
    have y3_ := keepc hb9_ y3_
    have GH := hide (GH.out.below hb9_)
    have GN := hide (GN.out.below hb9_)
    have hB := bcall hB hb9_
    cases sm with
    | false =>
      have hxe := hxz.out
      go_wp2_with fail
      (with_reducible refine (Same_c n n _ _ ls R _ GH.out GN.out _ hsm.out).mono ?_)
      rintro e w10_ ⟨rfl, hb10_⟩
      have x0p_ := keepc hb10_ x0p_
      have y0p_ := keepc hb10_ y0p_
      have x3_ := keepc hb10_ x3_
      have y3_ := keepc hb10_ y3_
      have GH := hide (GH.out.below hb10_)
      have GN := hide (GN.out.below hb10_)
      have hB := bcall hB hb10_
      go_wp2
      go_ret
      exact ⟨rfl, hB⟩
    | true =>
      have hxe := hxz.out
      go_wp2_with fail
      (with_reducible refine (Same_c n n _ _ ls R _ GH.out GN.out _ hsm.out).mono ?_)
      rintro e w10_ ⟨rfl, hb10_⟩
      have x0p_ := keepc hb10_ x0p_
      have y0p_ := keepc hb10_ y0p_
      have x3_ := keepc hb10_ x3_
      have y3_ := keepc hb10_ y3_
      have GH := hide (GH.out.below hb10_)
      have GN := hide (GN.out.below hb10_)
      have hB := bcall hB hb10_
      go_wp2
      go_ret
      exact ⟨rfl, hB⟩


set_option maxRecDepth 100000 in
set_option maxHeartbeats 8000000 in
theorem walk_off1 (n : Int) (vh : Value) (ls : Rws) (o s v p q a b z p1 q1 : Int) (w : World) (hh : Grid w vh ls) (hf : Fit ls) (ho : 0 ≤ o ∧ o ≤ 255) (hs : 0 ≤ s ∧ s ≤ 255) (hvv : 0 ≤ v ∧ v ≤ 255) (hpp : 0 ≤ p ∧ p ≤ 255) (hqq : 0 ≤ q ∧ q ≤ 255) (hE : EnvH w) (ea : o % 8 = a) (eb : s % 5 = b) (ez : v % 8 = z) (ep : p % 8 = p1) (eq : q % 5 = q1) (hk : putOk ls a b z = true) (hne : (a == p1) = false) :
    Calls Tryd.prog 4 #[hv n vh, .int .u8 o, .int .u8 s, .int .u8 v, .int .u8 p, .int .u8 q] w fun e w' => e = .returned (.bool true) ∧ Below w.heap.size w w' := by
  have GH := hide hh
  obtain ⟨A, c, rfl, h1, h2⟩ := hh.form
  unfold maxLen at h2
  obtain ⟨L, hL⟩ : ∃ L, ls.length = L := ⟨_, rfl⟩
  rw [hL] at GH h1 ⊢
  obtain ⟨x, hx⟩ : ∃ x, getF ls a b = x := ⟨_, rfl⟩
  obtain ⟨u, hu⟩ : ∃ x, getF ls p1 q1 = x := ⟨_, rfl⟩
  obtain ⟨iu, hiu⟩ : ∃ x, hasS ls p1 q1 = x := ⟨_, rfl⟩
  obtain ⟨R, hR⟩ : ∃ R, putF ls a b z = R := ⟨_, rfl⟩
  obtain ⟨ra, hra⟩ : ∃ r, rightF n ls = r := ⟨_, rfl⟩
  obtain ⟨ta, hta⟩ : ∃ t : ByteArray, textF n ls = t.data.toList := ⟨⟨(textF n ls).toArray⟩, rfl⟩
  have hiu2 := hide (show hasS R p1 q1 = iu by rw [← hR, has_put]; exact hiu)
  have hhad := hide (put_ok hk).1
  obtain ⟨sm, hsm⟩ : ∃ b, sameF n ls n R = b := ⟨_, rfl⟩
  have hxz := hide (show (x == z) = sm by rw [← hx, ← hsm, ← hR]; exact same_put hk)
  have hrr := hide (show ra = true → rightF n R = true from fun h => by rw [← hR]; exact right_put (hra.trans h))
  have hy := hide (show getF R a b = z by rw [← hR]; exact get_put hk)
  have his := hide (show hasS R a b = true by rw [← hR, has_put]; exact (put_ok hk).1)
  have hsm := hide hsm
  have hok := hide hk
  have hw := hide (show getF R p1 q1 = u by rw [← hR, get_other (fun h => by rw [h.1, beq_self_eq_true] at hne; cases hne)]; exact hu)
  clear hk
  have hL := hide hL
  have hx := hide hx
  have hu := hide hu
  have hiu := hide hiu
  have hR := hide hR
  have hra := hide hra
  have hta := hide hta
  have hF := hide hf
  have HE := hide hE
  have hB : Below w.heap.size w w := Below.refl _ _
  clear hh hf hE
  obtain ⟨wp0_, ep0_, hbp0_, hltp0_, -, x0p_, y0p_⟩ := box1 w (.int .i64 n) (.slice A L c) 24
  have HEP0_ := hide ep0_
  clear ep0_
  have GH := hide (GH.out.below hbp0_)
  have HE := hide (HE.out.below hbp0_)
  have hB := bcall hB hbp0_
  go_enter Tryd.func4, Tryd.ntmps4
  go_wp2_with fail
  rw [HEP0_.out]
  (with_reducible refine (examples_any _ HE.out).mono ?_)
  rintro e w0_ ⟨rfl, hb0_⟩
  have x0p_ := keepc hb0_ x0p_
  have y0p_ := keepc hb0_ y0p_
  have GH := hide (GH.out.below hb0_)
  have hB := bcall hB hb0_
  go_wp2_with fail
  (with_reducible refine (Text_c n _ ls _ GH.out ta hta.out).mono ?_)
  rintro e w1_ ⟨rfl, hb1_⟩
  have x0p_ := keepc hb1_ x0p_
  have y0p_ := keepc hb1_ y0p_
  have GH := hide (GH.out.below hb1_)
  have hB := bcall hB hb1_
  go_wp2_with fail
  (with_reducible refine (Get_c n _ ls _ _ _ GH.out x hx.out _ hhad.out).mono ?_)
  rintro e w2_ ⟨rfl, hb2_⟩
  have x0p_ := keepc hb2_ x0p_
  have y0p_ := keepc hb2_ y0p_
  have GH := hide (GH.out.below hb2_)
  have hB := bcall hB hb2_
  go_wp2_with fail
  (with_reducible refine (Put_c n _ ls _ _ _ _ GH.out hF.out L hL.out R hR.out _ hok.out).mono ?_)
  rintro e w3_ ⟨A3_, c3_, rfl, p3_, q3_, GN, hb3_⟩
  have x0p_ := keepc hb3_ x0p_
  have y0p_ := keepc hb3_ y0p_
  have GH := hide (GH.out.below hb3_)
  have hB := bcall hB hb3_
  have GN := hide GN.out.grid
  obtain ⟨wb3_, eb3_, hbb3_, hlt3_, -, x3_, y3_⟩ := box1 w3_ (.int .i64 n) (.slice A3_ L c3_) 24
  have HEB3_ := hide eb3_
  clear eb3_
  have x0p_a := fun o => keepc (bal w3_ o) x0p_
  have y0p_a := fun o => keepc (bal w3_ o) y0p_
  have x0p_ := keepc hbb3_ x0p_
  have y0p_ := keepc hbb3_ y0p_
  have GH := hide (GH.out.below hbb3_)
  have GN := hide (GN.out.below hbb3_)
  have hB := bcall hB hbb3_
  go_wp2_with fail
  rw [HEB3_.out]
  clear x0p_a y0p_a
  (with_reducible refine (Get_c n _ R _ _ _ GN.out _ hy.out _ his.out).mono ?_)
  rintro e w4_ ⟨rfl, hb4_⟩
  have x0p_ := keepc hb4_ x0p_
  have y0p_ := keepc hb4_ y0p_
  have x3_ := keepc hb4_ x3_
  have y3_ := keepc hb4_ y3_
  have GH := hide (GH.out.below hb4_)
  have GN := hide (GN.out.below hb4_)
  have hB := bcall hB hb4_
  go_wp2_with fail
  (with_reducible refine (Get_c n _ ls _ _ _ GH.out u hu.out _ hiu.out).mono ?_)
  rintro e w5_ ⟨rfl, hb5_⟩
  have x0p_ := keepc hb5_ x0p_
  have y0p_ := keepc hb5_ y0p_
  have x3_ := keepc hb5_ x3_
  have y3_ := keepc hb5_ y3_
  have GH := hide (GH.out.below hb5_)
  have GN := hide (GN.out.below hb5_)
  have hB := bcall hB hb5_
  go_wp2_with fail
  (with_reducible refine (Get_c n _ R _ _ _ GN.out _ hw.out _ hiu2.out).mono ?_)
  rintro e w6_ ⟨rfl, hb6_⟩
  have x0p_ := keepc hb6_ x0p_
  have y0p_ := keepc hb6_ y0p_
  have x3_ := keepc hb6_ x3_
  have y3_ := keepc hb6_ y3_
  have GH := hide (GH.out.below hb6_)
  have GN := hide (GN.out.below hb6_)
  have hB := bcall hB hb6_
  go_wp2_with fail
  (with_reducible refine (Text_c n _ ls _ GH.out ta hta.out).mono ?_)
  rintro e w7_ ⟨rfl, hb7_⟩
  have x0p_ := keepc hb7_ x0p_
  have y0p_ := keepc hb7_ y0p_
  have x3_ := keepc hb7_ x3_
  have y3_ := keepc hb7_ y3_
  have GH := hide (GH.out.below hb7_)
  have GN := hide (GN.out.below hb7_)
  have hB := bcall hB hb7_
  cases ra with
  | false =>
    go_wp2_with fail
    (with_reducible refine (Right_c n _ ls _ GH.out _ hra.out).mono ?_)
    rintro e w8_ ⟨rfl, hb8_⟩
    have x0p_ := keepc hb8_ x0p_
    have y0p_ := keepc hb8_ y0p_
    have x3_ := keepc hb8_ x3_
    have y3_ := keepc hb8_ y3_
    have GH := hide (GH.out.below hb8_)
    have GN := hide (GN.out.below hb8_)
    have hB := bcall hB hb8_
    cases sm with
    | false =>
      have hxe := hxz.out
      go_wp2_with fail
      (with_reducible refine (Same_c n n _ _ ls R _ GH.out GN.out _ hsm.out).mono ?_)
      rintro e w9_ ⟨rfl, hb9_⟩
      have x0p_ := keepc hb9_ x0p_
      have y0p_ := keepc hb9_ y0p_
      have x3_ := keepc hb9_ x3_
      have y3_ := keepc hb9_ y3_
      have GH := hide (GH.out.below hb9_)
      have GN := hide (GN.out.below hb9_)
      have hB := bcall hB hb9_
      go_wp2
      go_ret
      exact ⟨rfl, hB⟩
    | true =>
      have hxe := hxz.out
      go_wp2_with fail
      (with_reducible refine (Same_c n n _ _ ls R _ GH.out GN.out _ hsm.out).mono ?_)
      rintro e w9_ ⟨rfl, hb9_⟩
      have x0p_ := keepc hb9_ x0p_
      have y0p_ := keepc hb9_ y0p_
      have x3_ := keepc hb9_ x3_
      have y3_ := keepc hb9_ y3_
      have GH := hide (GH.out.below hb9_)
      have GN := hide (GN.out.below hb9_)
      have hB := bcall hB hb9_
      go_wp2
      go_ret
      exact ⟨rfl, hB⟩
  | true =>
    have hrn := hide (hrr.out rfl)
    go_wp2_with fail
    (with_reducible refine (Right_c n _ ls _ GH.out _ hra.out).mono ?_)
    rintro e w8_ ⟨rfl, hb8_⟩
    have x0p_ := keepc hb8_ x0p_
    have y0p_ := keepc hb8_ y0p_
    have x3_ := keepc hb8_ x3_
    have y3_ := keepc hb8_ y3_
    have GH := hide (GH.out.below hb8_)
    have GN := hide (GN.out.below hb8_)
    have hB := bcall hB hb8_
    go_wp2_with fail
    (with_reducible refine (Right_c n _ R _ GN.out true hrn.out).mono ?_)
    rintro e w9_ ⟨rfl, hb9_⟩
    have x0p_ := keepc hb9_ x0p_
    have y0p_ := keepc hb9_ y0p_
    have x3_ := keepc hb9_ x3_
    have y3_ := keepc hb9_ y3_
    have GH := hide (GH.out.below hb9_)
    have GN := hide (GN.out.below hb9_)
    have hB := bcall hB hb9_
    cases sm with
    | false =>
      have hxe := hxz.out
      go_wp2_with fail
      (with_reducible refine (Same_c n n _ _ ls R _ GH.out GN.out _ hsm.out).mono ?_)
      rintro e w10_ ⟨rfl, hb10_⟩
      have x0p_ := keepc hb10_ x0p_
      have y0p_ := keepc hb10_ y0p_
      have x3_ := keepc hb10_ x3_
      have y3_ := keepc hb10_ y3_
      have GH := hide (GH.out.below hb10_)
      have GN := hide (GN.out.below hb10_)
      have hB := bcall hB hb10_
      go_wp2
      go_ret
      exact ⟨rfl, hB⟩
    | true =>
      have hxe := hxz.out
      go_wp2_with fail
      (with_reducible refine (Same_c n n _ _ ls R _ GH.out GN.out _ hsm.out).mono ?_)
      rintro e w10_ ⟨rfl, hb10_⟩
      have x0p_ := keepc hb10_ x0p_
      have y0p_ := keepc hb10_ y0p_
      have x3_ := keepc hb10_ x3_
      have y3_ := keepc hb10_ y3_
      have GH := hide (GH.out.below hb10_)
      have GN := hide (GN.out.below hb10_)
      have hB := bcall hB hb10_
      go_wp2
      go_ret
      exact ⟨rfl, hB⟩


set_option maxRecDepth 100000 in
set_option maxHeartbeats 8000000 in
theorem walk_off2 (n : Int) (vh : Value) (ls : Rws) (o s v p q a b z q1 : Int) (w : World) (hh : Grid w vh ls) (hf : Fit ls) (ho : 0 ≤ o ∧ o ≤ 255) (hs : 0 ≤ s ∧ s ≤ 255) (hvv : 0 ≤ v ∧ v ≤ 255) (hpp : 0 ≤ p ∧ p ≤ 255) (hqq : 0 ≤ q ∧ q ≤ 255) (hE : EnvH w) (ea : o % 8 = a) (eb : s % 5 = b) (ez : v % 8 = z) (ep : p % 8 = a) (eq : q % 5 = q1) (hk : putOk ls a b z = true) (hne : (b == q1) = false) :
    Calls Tryd.prog 4 #[hv n vh, .int .u8 o, .int .u8 s, .int .u8 v, .int .u8 p, .int .u8 q] w fun e w' => e = .returned (.bool true) ∧ Below w.heap.size w w' := by
  have GH := hide hh
  obtain ⟨A, c, rfl, h1, h2⟩ := hh.form
  unfold maxLen at h2
  obtain ⟨L, hL⟩ : ∃ L, ls.length = L := ⟨_, rfl⟩
  rw [hL] at GH h1 ⊢
  obtain ⟨x, hx⟩ : ∃ x, getF ls a b = x := ⟨_, rfl⟩
  obtain ⟨u, hu⟩ : ∃ x, getF ls a q1 = x := ⟨_, rfl⟩
  obtain ⟨iu, hiu⟩ : ∃ x, hasS ls a q1 = x := ⟨_, rfl⟩
  obtain ⟨R, hR⟩ : ∃ R, putF ls a b z = R := ⟨_, rfl⟩
  obtain ⟨ra, hra⟩ : ∃ r, rightF n ls = r := ⟨_, rfl⟩
  obtain ⟨ta, hta⟩ : ∃ t : ByteArray, textF n ls = t.data.toList := ⟨⟨(textF n ls).toArray⟩, rfl⟩
  have hiu2 := hide (show hasS R a q1 = iu by rw [← hR, has_put]; exact hiu)
  have hhad := hide (put_ok hk).1
  obtain ⟨sm, hsm⟩ : ∃ b, sameF n ls n R = b := ⟨_, rfl⟩
  have hxz := hide (show (x == z) = sm by rw [← hx, ← hsm, ← hR]; exact same_put hk)
  have hrr := hide (show ra = true → rightF n R = true from fun h => by rw [← hR]; exact right_put (hra.trans h))
  have hy := hide (show getF R a b = z by rw [← hR]; exact get_put hk)
  have his := hide (show hasS R a b = true by rw [← hR, has_put]; exact (put_ok hk).1)
  have hsm := hide hsm
  have hok := hide hk
  have hw := hide (show getF R a q1 = u by rw [← hR, get_other (fun h => by rw [h.2, beq_self_eq_true] at hne; cases hne)]; exact hu)
  clear hk
  have hL := hide hL
  have hx := hide hx
  have hu := hide hu
  have hiu := hide hiu
  have hR := hide hR
  have hra := hide hra
  have hta := hide hta
  have hF := hide hf
  have HE := hide hE
  have hB : Below w.heap.size w w := Below.refl _ _
  clear hh hf hE
  obtain ⟨wp0_, ep0_, hbp0_, hltp0_, -, x0p_, y0p_⟩ := box1 w (.int .i64 n) (.slice A L c) 24
  have HEP0_ := hide ep0_
  clear ep0_
  have GH := hide (GH.out.below hbp0_)
  have HE := hide (HE.out.below hbp0_)
  have hB := bcall hB hbp0_
  go_enter Tryd.func4, Tryd.ntmps4
  go_wp2_with fail
  rw [HEP0_.out]
  (with_reducible refine (examples_any _ HE.out).mono ?_)
  rintro e w0_ ⟨rfl, hb0_⟩
  have x0p_ := keepc hb0_ x0p_
  have y0p_ := keepc hb0_ y0p_
  have GH := hide (GH.out.below hb0_)
  have hB := bcall hB hb0_
  go_wp2_with fail
  (with_reducible refine (Text_c n _ ls _ GH.out ta hta.out).mono ?_)
  rintro e w1_ ⟨rfl, hb1_⟩
  have x0p_ := keepc hb1_ x0p_
  have y0p_ := keepc hb1_ y0p_
  have GH := hide (GH.out.below hb1_)
  have hB := bcall hB hb1_
  go_wp2_with fail
  (with_reducible refine (Get_c n _ ls _ _ _ GH.out x hx.out _ hhad.out).mono ?_)
  rintro e w2_ ⟨rfl, hb2_⟩
  have x0p_ := keepc hb2_ x0p_
  have y0p_ := keepc hb2_ y0p_
  have GH := hide (GH.out.below hb2_)
  have hB := bcall hB hb2_
  go_wp2_with fail
  (with_reducible refine (Put_c n _ ls _ _ _ _ GH.out hF.out L hL.out R hR.out _ hok.out).mono ?_)
  rintro e w3_ ⟨A3_, c3_, rfl, p3_, q3_, GN, hb3_⟩
  have x0p_ := keepc hb3_ x0p_
  have y0p_ := keepc hb3_ y0p_
  have GH := hide (GH.out.below hb3_)
  have hB := bcall hB hb3_
  have GN := hide GN.out.grid
  obtain ⟨wb3_, eb3_, hbb3_, hlt3_, -, x3_, y3_⟩ := box1 w3_ (.int .i64 n) (.slice A3_ L c3_) 24
  have HEB3_ := hide eb3_
  clear eb3_
  have x0p_a := fun o => keepc (bal w3_ o) x0p_
  have y0p_a := fun o => keepc (bal w3_ o) y0p_
  have x0p_ := keepc hbb3_ x0p_
  have y0p_ := keepc hbb3_ y0p_
  have GH := hide (GH.out.below hbb3_)
  have GN := hide (GN.out.below hbb3_)
  have hB := bcall hB hbb3_
  go_wp2_with fail
  rw [HEB3_.out]
  clear x0p_a y0p_a
  (with_reducible refine (Get_c n _ R _ _ _ GN.out _ hy.out _ his.out).mono ?_)
  rintro e w4_ ⟨rfl, hb4_⟩
  have x0p_ := keepc hb4_ x0p_
  have y0p_ := keepc hb4_ y0p_
  have x3_ := keepc hb4_ x3_
  have y3_ := keepc hb4_ y3_
  have GH := hide (GH.out.below hb4_)
  have GN := hide (GN.out.below hb4_)
  have hB := bcall hB hb4_
  go_wp2_with fail
  (with_reducible refine (Get_c n _ ls _ _ _ GH.out u hu.out _ hiu.out).mono ?_)
  rintro e w5_ ⟨rfl, hb5_⟩
  have x0p_ := keepc hb5_ x0p_
  have y0p_ := keepc hb5_ y0p_
  have x3_ := keepc hb5_ x3_
  have y3_ := keepc hb5_ y3_
  have GH := hide (GH.out.below hb5_)
  have GN := hide (GN.out.below hb5_)
  have hB := bcall hB hb5_
  go_wp2_with fail
  (with_reducible refine (Get_c n _ R _ _ _ GN.out _ hw.out _ hiu2.out).mono ?_)
  rintro e w6_ ⟨rfl, hb6_⟩
  have x0p_ := keepc hb6_ x0p_
  have y0p_ := keepc hb6_ y0p_
  have x3_ := keepc hb6_ x3_
  have y3_ := keepc hb6_ y3_
  have GH := hide (GH.out.below hb6_)
  have GN := hide (GN.out.below hb6_)
  have hB := bcall hB hb6_
  go_wp2_with fail
  (with_reducible refine (Text_c n _ ls _ GH.out ta hta.out).mono ?_)
  rintro e w7_ ⟨rfl, hb7_⟩
  have x0p_ := keepc hb7_ x0p_
  have y0p_ := keepc hb7_ y0p_
  have x3_ := keepc hb7_ x3_
  have y3_ := keepc hb7_ y3_
  have GH := hide (GH.out.below hb7_)
  have GN := hide (GN.out.below hb7_)
  have hB := bcall hB hb7_
  cases ra with
  | false =>
    go_wp2_with fail
    (with_reducible refine (Right_c n _ ls _ GH.out _ hra.out).mono ?_)
    rintro e w8_ ⟨rfl, hb8_⟩
    have x0p_ := keepc hb8_ x0p_
    have y0p_ := keepc hb8_ y0p_
    have x3_ := keepc hb8_ x3_
    have y3_ := keepc hb8_ y3_
    have GH := hide (GH.out.below hb8_)
    have GN := hide (GN.out.below hb8_)
    have hB := bcall hB hb8_
    cases sm with
    | false =>
      have hxe := hxz.out
      go_wp2_with fail
      (with_reducible refine (Same_c n n _ _ ls R _ GH.out GN.out _ hsm.out).mono ?_)
      rintro e w9_ ⟨rfl, hb9_⟩
      have x0p_ := keepc hb9_ x0p_
      have y0p_ := keepc hb9_ y0p_
      have x3_ := keepc hb9_ x3_
      have y3_ := keepc hb9_ y3_
      have GH := hide (GH.out.below hb9_)
      have GN := hide (GN.out.below hb9_)
      have hB := bcall hB hb9_
      go_wp2
      go_ret
      exact ⟨rfl, hB⟩
    | true =>
      have hxe := hxz.out
      go_wp2_with fail
      (with_reducible refine (Same_c n n _ _ ls R _ GH.out GN.out _ hsm.out).mono ?_)
      rintro e w9_ ⟨rfl, hb9_⟩
      have x0p_ := keepc hb9_ x0p_
      have y0p_ := keepc hb9_ y0p_
      have x3_ := keepc hb9_ x3_
      have y3_ := keepc hb9_ y3_
      have GH := hide (GH.out.below hb9_)
      have GN := hide (GN.out.below hb9_)
      have hB := bcall hB hb9_
      go_wp2
      go_ret
      exact ⟨rfl, hB⟩
  | true =>
    have hrn := hide (hrr.out rfl)
    go_wp2_with fail
    (with_reducible refine (Right_c n _ ls _ GH.out _ hra.out).mono ?_)
    rintro e w8_ ⟨rfl, hb8_⟩
    have x0p_ := keepc hb8_ x0p_
    have y0p_ := keepc hb8_ y0p_
    have x3_ := keepc hb8_ x3_
    have y3_ := keepc hb8_ y3_
    have GH := hide (GH.out.below hb8_)
    have GN := hide (GN.out.below hb8_)
    have hB := bcall hB hb8_
    go_wp2_with fail
    (with_reducible refine (Right_c n _ R _ GN.out true hrn.out).mono ?_)
    rintro e w9_ ⟨rfl, hb9_⟩
    have x0p_ := keepc hb9_ x0p_
    have y0p_ := keepc hb9_ y0p_
    have x3_ := keepc hb9_ x3_
    have y3_ := keepc hb9_ y3_
    have GH := hide (GH.out.below hb9_)
    have GN := hide (GN.out.below hb9_)
    have hB := bcall hB hb9_
    cases sm with
    | false =>
      have hxe := hxz.out
      go_wp2_with fail
      (with_reducible refine (Same_c n n _ _ ls R _ GH.out GN.out _ hsm.out).mono ?_)
      rintro e w10_ ⟨rfl, hb10_⟩
      have x0p_ := keepc hb10_ x0p_
      have y0p_ := keepc hb10_ y0p_
      have x3_ := keepc hb10_ x3_
      have y3_ := keepc hb10_ y3_
      have GH := hide (GH.out.below hb10_)
      have GN := hide (GN.out.below hb10_)
      have hB := bcall hB hb10_
      go_wp2
      go_ret
      exact ⟨rfl, hB⟩
    | true =>
      have hxe := hxz.out
      go_wp2_with fail
      (with_reducible refine (Same_c n n _ _ ls R _ GH.out GN.out _ hsm.out).mono ?_)
      rintro e w10_ ⟨rfl, hb10_⟩
      have x0p_ := keepc hb10_ x0p_
      have y0p_ := keepc hb10_ y0p_
      have x3_ := keepc hb10_ x3_
      have y3_ := keepc hb10_ y3_
      have GH := hide (GH.out.below hb10_)
      have GN := hide (GN.out.below hb10_)
      have hB := bcall hB hb10_
      go_wp2
      go_ret
      exact ⟨rfl, hB⟩


theorem walk (n : Int) (vh : Value) (ls : Rws) (o s v p q : Int) (w : World) (hh : Grid w vh ls) (hf : Fit ls) (ho : 0 ≤ o ∧ o ≤ 255) (hs : 0 ≤ s ∧ s ≤ 255) (hvv : 0 ≤ v ∧ v ≤ 255) (hpp : 0 ≤ p ∧ p ≤ 255) (hqq : 0 ≤ q ∧ q ≤ 255) (hE : EnvH w) :
    Calls Tryd.prog 4 #[hv n vh, .int .u8 o, .int .u8 s, .int .u8 v, .int .u8 p, .int .u8 q] w fun e w' => e = .returned (.bool true) ∧ Below w.heap.size w w' := by
  cases hk : putOk ls (o % 8) (s % 5) (v % 8) with
  | false => exact walk_no n vh ls o s v p q _ _ _ _ _ w hh hf ho hs hvv hpp hqq hE rfl rfl rfl rfl rfl hk
  | true =>
    by_cases e1 : o % 8 = p % 8
    · by_cases e2 : s % 5 = q % 5
      · exact walk_at n vh ls o s v p q _ _ _ w hh hf ho hs hvv hpp hqq hE rfl rfl rfl e1.symm e2.symm hk
      · exact walk_off2 n vh ls o s v p q _ _ _ _ w hh hf ho hs hvv hpp hqq hE rfl rfl rfl e1.symm rfl hk (beq_eq_false_iff_ne.2 e2)
    · exact walk_off1 n vh ls o s v p q _ _ _ _ _ w hh hf ho hs hvv hpp hqq hE rfl rfl rfl rfl rfl hk (beq_eq_false_iff_ne.2 e1)

set_option maxRecDepth 100000 in
theorem lifted (os : Os) (started : os.Started) (H : Type) (enc : TypeId × Value → H) :
    ReturnsInHanded {} Tryd.checked os 4 .any (fun w args => (Rows.heapPutsSpec.pre enc Tryd.prog Tryd.f4 Rows.heapPutsRow.domain false w args ∧ laidMetH Tryd.prog Rows.heapPutsRow.laid w) ∧ sizedMet enc Tryd.prog Tryd.f4 (OpenSpec.ofChange Rows.heapPutsSpec) false w args) (Rows.heapPutsSpec.post enc Tryd.prog Tryd.f4 false true false false) := by
  refine handed_and_shaped (C := Tryd.checked) (X := fun w _ => laidMetH Tryd.prog Rows.heapPutsRow.laid w) (fun _ _ _ hh h => h.of_heap hh) ownL started (by kernel_rfl) Tryd.func4
    (ChangeSpec.witness_shaped (enc := enc) (C := Tryd.checked) (os := os) (X := fun w _ => laidMetH Tryd.prog Rows.heapPutsRow.laid w) false (World.laidAll Tryd.prog os Rows.heapPutsRow.laid) #[.agg #[.int .i64 0, .slice none 0 0], .int .u8 0, .int .u8 0, .int .u8 0, .int .u8 0, .int .u8 0] 8 (World.laidAll_os _ _ _)
      (World.shaped_of_ZipB (by kernel_rfl) (by kernel_rfl)) (by kernel_rfl) (by kernel_rfl) (by kernel_rfl)
      (by rw [MakeChecks.laidMetH_plain _ _ _ (by kernel_rfl)]; exact laidMet_laidAll _ (by kernel_rfl) (by kernel_rfl))) ?_
  intro W base args ds gs before hval0 hW hsz0 hL hsh
  have hval : ∀ (j : Nat) t v, Tryd.f4.params[j]? = some t → args[j]? = some v → Value.okWide Tryd.prog W .any base t v := hval0
  have hW' := hW
  obtain ⟨p, q, hA0, hV, rfl, hfz, hnd⟩ := hW
  have hA : DataW.TrodAll enc Tryd.prog W 0 (fun _ => true) true Tryd.f4.params.toList args.toList ds p := hA0
  rw [Tryd.params4] at hA hval
  obtain ⟨v0, vs0, d0, ds0, p0, q0, hargs, rfl, rfl, h0, r0⟩ := trodAll_cons hA
  obtain ⟨v1, vs1, d1, ds1, p1, q1, rfl, rfl, rfl, h1, r1⟩ := trodAll_cons r0
  obtain ⟨v2, vs2, d2, ds2, p2, q2, rfl, rfl, rfl, h2, r2⟩ := trodAll_cons r1
  obtain ⟨v3, vs3, d3, ds3, p3, q3, rfl, rfl, rfl, h3, r3⟩ := trodAll_cons r2
  obtain ⟨v4, vs4, d4, ds4, p4, q4, rfl, rfl, rfl, h4, r4⟩ := trodAll_cons r3
  obtain ⟨v5, vs5, d5, ds5, p5, q5, rfl, rfl, rfl, h5, r5⟩ := trodAll_cons r4
  obtain ⟨rfl, rfl, rfl⟩ := trodAll_nil r5
  obtain rfl : args = #[v0, v1, v2, v3, v4, v5] := by cases args; simp_all
  obtain ⟨rfl, rfl⟩ := trodVars_none hV
  obtain ⟨n0, u0, ls0, rfl, hg0, hn0, hr0, hf0⟩ := open_heap (hval 0 24 v0 rfl rfl) h0
  obtain ⟨a1, rfl, rfl, rfl, w1⟩ := open_int Tryd.underlying5 (hval 1 5 v1 rfl rfl) h1
  have hx1 : 0 ≤ a1 ∧ a1 ≤ 255 := by simpa [Lit.wf, IntKind.min, IntKind.max, IntKind.signed, IntKind.bits] using w1
  obtain ⟨a2, rfl, rfl, rfl, w2⟩ := open_int Tryd.underlying5 (hval 2 5 v2 rfl rfl) h2
  have hx2 : 0 ≤ a2 ∧ a2 ≤ 255 := by simpa [Lit.wf, IntKind.min, IntKind.max, IntKind.signed, IntKind.bits] using w2
  obtain ⟨a3, rfl, rfl, rfl, w3⟩ := open_int Tryd.underlying5 (hval 3 5 v3 rfl rfl) h3
  have hx3 : 0 ≤ a3 ∧ a3 ≤ 255 := by simpa [Lit.wf, IntKind.min, IntKind.max, IntKind.signed, IntKind.bits] using w3
  obtain ⟨a4, rfl, rfl, rfl, w4⟩ := open_int Tryd.underlying5 (hval 4 5 v4 rfl rfl) h4
  have hx4 : 0 ≤ a4 ∧ a4 ≤ 255 := by simpa [Lit.wf, IntKind.min, IntKind.max, IntKind.signed, IntKind.bits] using w4
  obtain ⟨a5, rfl, rfl, rfl, w5⟩ := open_int Tryd.underlying5 (hval 5 5 v5 rfl rfl) h5
  have hx5 : 0 ≤ a5 ∧ a5 ≤ 255 := by simpa [Lit.wf, IntKind.min, IntKind.max, IntKind.signed, IntKind.bits] using w5
  have hsz : (DataW.weightsEach Tryd.prog [24, 5, 5, 5, 5, 5] ([d0, .lit (.int .u8 a1), .lit (.int .u8 a2), .lit (.int .u8 a3), .lit (.int .u8 a4), .lit (.int .u8 a5)] : List (DataW H))).all (· ≤ reachBytes) = true := hsz0
  have e0 : Fit ls0 := hf0 fun k hk => by have h1 := List.all_eq_true.1 hsz k (DataW.weights_mem_each (j := 0) rfl rfl k hk); simpa [reachBytes] using of_decide_eq_true h1
  have hE := env_of_laid hL
  refine (walk n0 _ ls0 a1 a2 a3 a4 a5 W hg0 e0 hx1 hx2 hx3 hx4 hx5 hE).mono fun e W' ⟨he, hg⟩ => ?_
  subst he
  exact ⟨_, rfl, law_post laidOutL (by kernel_rfl) rfl Tryd.underlying4 rfl ⟨rfl, rfl, rfl⟩ hW' hg⟩
theorem row_holds : Rows.HeapPutsSaid :=
  OpenClaim.holds_of_wide 4 Tryd.f4 rfl rfl rfl rfl rfl rfl rfl ⟨rfl, rfl, rfl, rfl, rfl⟩ rfl rfl rfl rfl rfl (by kernel_rfl) Tryd.func4 (by kernel_rfl)
    (of_decide_eq_true (by kernel_rfl)) (by unfold Func.isWrapper; first | (rw [if_pos (by decide +kernel)]; kernel_rfl) | (rw [if_neg (by decide +kernel)]; exact ⟨rfl, rfl⟩))
    (fun os started H enc _ => lifted os started H enc)

/-- THE STATEMENT -/
theorem proved : Rows.HeapPutsCardSaid :=
  Claim7.holds_tied_plain_at .later [] Rows.heapPutsCard.laidKinds true Rows.heapPutsCard.stood.harness Rows.heapPutsCard.stood.looks
    row_holds (fun _ h => by cases h) (by kernel_rfl) (fun _ h => by cases h) heapPuts_row_tie rfl ⟨rfl, rfl⟩ (by kernel_rfl) rfl
    (fun f fn hf hfn => by
      obtain rfl : f = 4 := Option.some.inj ((show Tryd.prog.funcNamed Rows.heapPutsRow.func = some 4 by kernel_rfl).symm.trans hf) |>.symm
      obtain rfl : fn = Tryd.f4 := (Option.some.inj (Tryd.func4.symm.trans hfn)).symm
      exact ⟨by kernel_rfl, fun j t ht => by
        rw [Tryd.params4] at ht
        have hm : t ∈ [24, 5, 5, 5, 5, 5] := by simpa using Array.mem_of_getElem? ht
        have hall : ([24, 5, 5, 5, 5, 5].all fun u => !Tryd.prog.wantsStandIn u) = true := by kernel_rfl
        exact (show Tryd.prog.wantsStandIn t = false by simpa using List.all_eq_true.1 hall t hm)⟩)
    (by kernel_rfl)
end Go.Proofs.YtnbbjkikplfpoaaDoor.lawHeapPuts
