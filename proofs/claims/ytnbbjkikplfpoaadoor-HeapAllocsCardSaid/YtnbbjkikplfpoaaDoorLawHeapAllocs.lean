/- HeapAllocs: for any heap and any bound: a new object has number one more than the objects were, its slots are nil, and all else is as it was. No condition beside the listed tables, which the card ties to the text. -/
import Derived.Test.YtnbbjkikplfpoaaDoorHeapTied
import Derived.Test.YtnbbjkikplfpoaaDoorQuietB
import Derived.Test.YtnbbjkikplfpoaaDoorHeapAllocP
namespace Go.Proofs.YtnbbjkikplfpoaaDoor.lawHeapAllocs
open Go.RowKit Go.WideShapes Go.ChangeShapes Go.ChangeAt Go.Shelf Go.Proofs Go.Proofs.YtnbbjkikplfpoaaDoor

set_option maxRecDepth 100000 in
set_option maxHeartbeats 8000000 in
theorem walk_wrong (n : Int) (vh : Value) (ls : Rws) (o : Int) (w : World) (hh : Grid w vh ls) (hf : Fit ls) (ho : 0 ≤ o ∧ o ≤ 255) (hE : EnvH w) (hr : rightF n ls = false) :
    Calls Tryd.prog 5 #[hv n vh, .int .u8 o] w fun e w' => e = .returned (.bool true) ∧ Below w.heap.size w w' := by
  have GH := hide hh
  obtain ⟨A, c, rfl, h1, h2⟩ := hh.form
  unfold maxLen at h2
  obtain ⟨L, hL⟩ : ∃ L, ls.length = L := ⟨_, rfl⟩
  rw [hL] at GH h1 ⊢
  have hz := alloc_wrong (m := o) hr
  obtain ⟨R, hRR⟩ : ∃ R, R = ls := ⟨_, rfl⟩
  obtain ⟨K, hKK⟩ : ∃ K, K = L := ⟨_, rfl⟩
  have hR := hide (show allocF n ls o = R by rw [hRR]; exact hz.2.1)
  have hK := hide (show R.length = K by rw [hRR, hKK]; exact hL)
  have hN := hide hz.2.2
  have hE1 := hide hz.1
  have hsm := hide (show sameF n R n ls = true by rw [hRR]; unfold sameF; simp)
  clear hRR hKK
  have hr := hide hr
  clear hz
  have hL := hide hL
  have hF := hide hf
  have HE := hide hE
  have hB : Below w.heap.size w w := Below.refl _ _
  clear hh hf hE
  obtain ⟨wp0_, ep0_, hbp0_, hltp0_, -, x0p_, y0p_⟩ := box1 w (.int .i64 n) (.slice A L c) 24
  have HEP0_ := hide ep0_
  clear ep0_
  have GH := hide (GH.out.below hbp0_)
  have HE := hide (HE.out.below hbp0_)
  have hB := bcall hB hbp0_
  go_enter Tryd.func5, Tryd.ntmps5
  go_wp2_with fail
  rw [HEP0_.out]
  (with_reducible refine (examples_any _ HE.out).mono ?_)
  rintro e w0_ ⟨rfl, hb0_⟩
  have x0p_ := keepc hb0_ x0p_
  have y0p_ := keepc hb0_ y0p_
  have GH := hide (GH.out.below hb0_)
  have hB := bcall hB hb0_
  go_wp2_with fail
  (with_reducible refine (Alloc_c n _ ls _ _ GH.out hF.out R hR.out K hK.out _ hN.out _ hE1.out).mono ?_)
  rintro e w1_ ⟨A1_, c1_, rfl, p1_, q1_, GN, hb1_⟩
  have x0p_ := keepc hb1_ x0p_
  have y0p_ := keepc hb1_ y0p_
  have GH := hide (GH.out.below hb1_)
  have hB := bcall hB hb1_
  have GN := hide GN.out.grid
  obtain ⟨wb1_, eb1_, hbb1_, hlt1_, -, x1_, y1_⟩ := box1 w1_ (.int .i64 n) (.slice A1_ K c1_) 24
  have HEB1_ := hide eb1_
  clear eb1_
  have x0p_a := fun o => keepc (bal w1_ o) x0p_
  have y0p_a := fun o => keepc (bal w1_ o) y0p_
  have x0p_ := keepc hbb1_ x0p_
  have y0p_ := keepc hbb1_ y0p_
  have GH := hide (GH.out.below hbb1_)
  have GN := hide (GN.out.below hbb1_)
  have hB := bcall hB hbb1_
  go_wp2_with fail
  rw [HEB1_.out]
  clear x0p_a y0p_a
  (with_reducible refine (Right_c n _ ls _ GH.out _ hr.out).mono ?_)
  rintro e w2_ ⟨rfl, hb2_⟩
  have x0p_ := keepc hb2_ x0p_
  have y0p_ := keepc hb2_ y0p_
  have x1_ := keepc hb2_ x1_
  have y1_ := keepc hb2_ y1_
  have GH := hide (GH.out.below hb2_)
  have GN := hide (GN.out.below hb2_)
  have hB := bcall hB hb2_
  go_wp2
  go_ret
  exact ⟨rfl, hB⟩


set_option maxRecDepth 100000 in
set_option maxHeartbeats 8000000 in
theorem walk_full1 (n : Int) (vh : Value) (ls : Rws) (o : Int) (w : World) (hh : Grid w vh ls) (hf : Fit ls) (ho : 0 ≤ o ∧ o ≤ 255) (hE : EnvH w) (hr : rightF n ls = true) (hm : o ≤ ls.length) :
    Calls Tryd.prog 5 #[hv n vh, .int .u8 o] w fun e w' => e = .returned (.bool true) ∧ Below w.heap.size w w' := by
  have GH := hide hh
  obtain ⟨A, c, rfl, h1, h2⟩ := hh.form
  unfold maxLen at h2
  obtain ⟨L, hL⟩ : ∃ L, ls.length = L := ⟨_, rfl⟩
  rw [hL] at GH h1 ⊢
  have hz := alloc_full (m := o) hr (.inl hm)
  obtain ⟨R, hRR⟩ : ∃ R, R = ls := ⟨_, rfl⟩
  obtain ⟨K, hKK⟩ : ∃ K, K = L := ⟨_, rfl⟩
  have hR := hide (show allocF n ls o = R by rw [hRR]; exact hz.2.1)
  have hK := hide (show R.length = K by rw [hRR, hKK]; exact hL)
  have hN := hide hz.2.2
  have hE1 := hide hz.1
  have hsm := hide (show sameF n R n ls = true by rw [hRR]; unfold sameF; simp)
  clear hRR hKK
  rw [hL] at hm
  have hr := hide hr
  clear hz
  have hL := hide hL
  have hF := hide hf
  have HE := hide hE
  have hB : Below w.heap.size w w := Below.refl _ _
  clear hh hf hE
  obtain ⟨wp0_, ep0_, hbp0_, hltp0_, -, x0p_, y0p_⟩ := box1 w (.int .i64 n) (.slice A L c) 24
  have HEP0_ := hide ep0_
  clear ep0_
  have GH := hide (GH.out.below hbp0_)
  have HE := hide (HE.out.below hbp0_)
  have hB := bcall hB hbp0_
  go_enter Tryd.func5, Tryd.ntmps5
  go_wp2_with fail
  rw [HEP0_.out]
  (with_reducible refine (examples_any _ HE.out).mono ?_)
  rintro e w0_ ⟨rfl, hb0_⟩
  have x0p_ := keepc hb0_ x0p_
  have y0p_ := keepc hb0_ y0p_
  have GH := hide (GH.out.below hb0_)
  have hB := bcall hB hb0_
  go_wp2_with fail
  (with_reducible refine (Alloc_c n _ ls _ _ GH.out hF.out R hR.out K hK.out _ hN.out _ hE1.out).mono ?_)
  rintro e w1_ ⟨A1_, c1_, rfl, p1_, q1_, GN, hb1_⟩
  have x0p_ := keepc hb1_ x0p_
  have y0p_ := keepc hb1_ y0p_
  have GH := hide (GH.out.below hb1_)
  have hB := bcall hB hb1_
  have GN := hide GN.out.grid
  obtain ⟨wb1_, eb1_, hbb1_, hlt1_, -, x1_, y1_⟩ := box1 w1_ (.int .i64 n) (.slice A1_ K c1_) 24
  have HEB1_ := hide eb1_
  clear eb1_
  have x0p_a := fun o => keepc (bal w1_ o) x0p_
  have y0p_a := fun o => keepc (bal w1_ o) y0p_
  have x0p_ := keepc hbb1_ x0p_
  have y0p_ := keepc hbb1_ y0p_
  have GH := hide (GH.out.below hbb1_)
  have GN := hide (GN.out.below hbb1_)
  have hB := bcall hB hbb1_
  go_wp2_with fail
  rw [HEB1_.out]
  clear x0p_a y0p_a
  (with_reducible refine (Right_c n _ ls _ GH.out _ hr.out).mono ?_)
  rintro e w2_ ⟨rfl, hb2_⟩
  have x0p_ := keepc hb2_ x0p_
  have y0p_ := keepc hb2_ y0p_
  have x1_ := keepc hb2_ x1_
  have y1_ := keepc hb2_ y1_
  have GH := hide (GH.out.below hb2_)
  have GN := hide (GN.out.below hb2_)
  have hB := bcall hB hb2_
  go_wp2_with fail
  (with_reducible refine (Same_c n n _ _ R ls _ GN.out GH.out true hsm.out).mono ?_)
  rintro e w3_ ⟨rfl, hb3_⟩
  have x0p_ := keepc hb3_ x0p_
  have y0p_ := keepc hb3_ y0p_
  have x1_ := keepc hb3_ x1_
  have y1_ := keepc hb3_ y1_
  have GH := hide (GH.out.below hb3_)
  have GN := hide (GN.out.below hb3_)
  have hB := bcall hB hb3_
  go_wp2
  go_ret
  exact ⟨rfl, hB⟩


set_option maxRecDepth 100000 in
set_option maxHeartbeats 8000000 in
theorem walk_full2 (n : Int) (vh : Value) (ls : Rws) (o : Int) (w : World) (hh : Grid w vh ls) (hf : Fit ls) (ho : 0 ≤ o ∧ o ≤ 255) (hE : EnvH w) (hr : rightF n ls = true) (hm : (ls.length : Int) < o) (h64 : 64 ≤ ls.length) :
    Calls Tryd.prog 5 #[hv n vh, .int .u8 o] w fun e w' => e = .returned (.bool true) ∧ Below w.heap.size w w' := by
  have GH := hide hh
  obtain ⟨A, c, rfl, h1, h2⟩ := hh.form
  unfold maxLen at h2
  obtain ⟨L, hL⟩ : ∃ L, ls.length = L := ⟨_, rfl⟩
  rw [hL] at GH h1 ⊢
  have hz := alloc_full (m := o) hr (.inr h64)
  obtain ⟨R, hRR⟩ : ∃ R, R = ls := ⟨_, rfl⟩
  obtain ⟨K, hKK⟩ : ∃ K, K = L := ⟨_, rfl⟩
  have hR := hide (show allocF n ls o = R by rw [hRR]; exact hz.2.1)
  have hK := hide (show R.length = K by rw [hRR, hKK]; exact hL)
  have hN := hide hz.2.2
  have hE1 := hide hz.1
  have hsm := hide (show sameF n R n ls = true by rw [hRR]; unfold sameF; simp)
  clear hRR hKK
  rw [hL] at hm h64
  have hr := hide hr
  clear hz
  have hL := hide hL
  have hF := hide hf
  have HE := hide hE
  have hB : Below w.heap.size w w := Below.refl _ _
  clear hh hf hE
  obtain ⟨wp0_, ep0_, hbp0_, hltp0_, -, x0p_, y0p_⟩ := box1 w (.int .i64 n) (.slice A L c) 24
  have HEP0_ := hide ep0_
  clear ep0_
  have GH := hide (GH.out.below hbp0_)
  have HE := hide (HE.out.below hbp0_)
  have hB := bcall hB hbp0_
  go_enter Tryd.func5, Tryd.ntmps5
  go_wp2_with fail
  rw [HEP0_.out]
  (with_reducible refine (examples_any _ HE.out).mono ?_)
  rintro e w0_ ⟨rfl, hb0_⟩
  have x0p_ := keepc hb0_ x0p_
  have y0p_ := keepc hb0_ y0p_
  have GH := hide (GH.out.below hb0_)
  have hB := bcall hB hb0_
  go_wp2_with fail
  (with_reducible refine (Alloc_c n _ ls _ _ GH.out hF.out R hR.out K hK.out _ hN.out _ hE1.out).mono ?_)
  rintro e w1_ ⟨A1_, c1_, rfl, p1_, q1_, GN, hb1_⟩
  have x0p_ := keepc hb1_ x0p_
  have y0p_ := keepc hb1_ y0p_
  have GH := hide (GH.out.below hb1_)
  have hB := bcall hB hb1_
  have GN := hide GN.out.grid
  obtain ⟨wb1_, eb1_, hbb1_, hlt1_, -, x1_, y1_⟩ := box1 w1_ (.int .i64 n) (.slice A1_ K c1_) 24
  have HEB1_ := hide eb1_
  clear eb1_
  have x0p_a := fun o => keepc (bal w1_ o) x0p_
  have y0p_a := fun o => keepc (bal w1_ o) y0p_
  have x0p_ := keepc hbb1_ x0p_
  have y0p_ := keepc hbb1_ y0p_
  have GH := hide (GH.out.below hbb1_)
  have GN := hide (GN.out.below hbb1_)
  have hB := bcall hB hbb1_
  go_wp2_with fail
  rw [HEB1_.out]
  clear x0p_a y0p_a
  (with_reducible refine (Right_c n _ ls _ GH.out _ hr.out).mono ?_)
  rintro e w2_ ⟨rfl, hb2_⟩
  have x0p_ := keepc hb2_ x0p_
  have y0p_ := keepc hb2_ y0p_
  have x1_ := keepc hb2_ x1_
  have y1_ := keepc hb2_ y1_
  have GH := hide (GH.out.below hb2_)
  have GN := hide (GN.out.below hb2_)
  have hB := bcall hB hb2_
  go_wp2_with fail
  (with_reducible refine (Same_c n n _ _ R ls _ GN.out GH.out true hsm.out).mono ?_)
  rintro e w3_ ⟨rfl, hb3_⟩
  have x0p_ := keepc hb3_ x0p_
  have y0p_ := keepc hb3_ y0p_
  have x1_ := keepc hb3_ x1_
  have y1_ := keepc hb3_ y1_
  have GH := hide (GH.out.below hb3_)
  have GN := hide (GN.out.below hb3_)
  have hB := bcall hB hb3_
  go_wp2
  go_ret
  exact ⟨rfl, hB⟩


set_option maxRecDepth 100000 in
set_option maxHeartbeats 8000000 in
theorem walk_room (N : Nat) (vh : Value) (ls : Rws) (o : Int) (w : World) (hh : Grid w vh ls) (hf : Fit ls) (ho : 0 ≤ o ∧ o ≤ 255) (hE : EnvH w) (hr : rightF N ls = true) (hm : (ls.length : Int) < o) (h64 : ls.length < 64) :
    Calls Tryd.prog 5 #[hv N vh, .int .u8 o] w fun e w' => e = .returned (.bool true) ∧ Below w.heap.size w w' := by
  have GH := hide hh
  obtain ⟨A, c, rfl, h1, h2⟩ := hh.form
  unfold maxLen at h2
  obtain ⟨L, hL⟩ : ∃ L, ls.length = L := ⟨_, rfl⟩
  rw [hL] at GH h1 ⊢
  have hz := alloc_room (m := o) hr (by omega)
  have hn := right_len hr
  obtain ⟨R, hRR⟩ : ∃ R, R = ls ++ [List.replicate N 0] := ⟨_, rfl⟩
  obtain ⟨K, hKK⟩ : ∃ K, K = L + 1 := ⟨_, rfl⟩
  have hKi : (K : Int) = (L : Int) + 1 := by omega
  have hR := hide (show allocF N ls o = R by rw [hRR]; exact hz.2.1)
  have hK := hide (show R.length = K by rw [hRR, hKK, ← hL]; simp)
  have hN := hide (show allocN N ls o = (L : Int) + 1 by rw [hz.2.2, hL])
  have hE1 := hide hz.1
  have hrr := hide (show rightF N R = true by rw [hRR]; exact alloc_stays hr h64)
  have hget := hide (show ∀ k j : Nat, k ≤ L → j < N → getF R ((k : Int) + 1) j = getF ls ((k : Int) + 1) j ∧ hasS R ((k : Int) + 1) j = true from fun k j h h' => by
    rw [hRR]; rw [← hL] at h; exact ⟨alloc_get hr h h', alloc_has hr h h'⟩)
  rw [hL] at hm h64
  have hr := hide hr
  clear hz hRR hKK
  have hL := hide hL
  have hF := hide hf
  have HE := hide hE
  have hB : Below w.heap.size w w := Below.refl _ _
  clear hh hf hE
  obtain ⟨wp0_, ep0_, hbp0_, hltp0_, -, x0p_, y0p_⟩ := box1 w (.int .i64 (N : Int)) (.slice A L c) 24
  have HEP0_ := hide ep0_
  clear ep0_
  have GH := hide (GH.out.below hbp0_)
  have HE := hide (HE.out.below hbp0_)
  have hB := bcall hB hbp0_
  go_enter Tryd.func5, Tryd.ntmps5
  go_wp2_with fail
  rw [HEP0_.out]
  (with_reducible refine (examples_any _ HE.out).mono ?_)
  rintro e w0_ ⟨rfl, hb0_⟩
  have x0p_ := keepc hb0_ x0p_
  have y0p_ := keepc hb0_ y0p_
  have GH := hide (GH.out.below hb0_)
  have hB := bcall hB hb0_
  go_wp2_with fail
  (with_reducible refine (Alloc_c (N : Int) _ ls _ _ GH.out hF.out R hR.out K hK.out _ hN.out _ hE1.out).mono ?_)
  rintro e w1_ ⟨A1_, c1_, rfl, p1_, q1_, GN, hb1_⟩
  have x0p_ := keepc hb1_ x0p_
  have y0p_ := keepc hb1_ y0p_
  have GH := hide (GH.out.below hb1_)
  have hB := bcall hB hb1_
  have GN := hide GN.out.grid
  obtain ⟨wb1_, eb1_, hbb1_, hlt1_, -, x1_, y1_⟩ := box1 w1_ (.int .i64 (N : Int)) (.slice A1_ K c1_) 24
  have HEB1_ := hide eb1_
  clear eb1_
  have x0p_a := fun o => keepc (bal w1_ o) x0p_
  have y0p_a := fun o => keepc (bal w1_ o) y0p_
  have x0p_ := keepc hbb1_ x0p_
  have y0p_ := keepc hbb1_ y0p_
  have GH := hide (GH.out.below hbb1_)
  have GN := hide (GN.out.below hbb1_)
  have hB := bcall hB hbb1_
  go_wp2_with fail
  rw [HEB1_.out]
  clear x0p_a y0p_a
  (with_reducible refine (Right_c (N : Int) _ ls _ GH.out _ hr.out).mono ?_)
  rintro e w2_ ⟨rfl, hb2_⟩
  have x0p_ := keepc hb2_ x0p_
  have y0p_ := keepc hb2_ y0p_
  have x1_ := keepc hb2_ x1_
  have y1_ := keepc hb2_ y1_
  have GH := hide (GH.out.below hb2_)
  have GN := hide (GN.out.below hb2_)
  have hB := bcall hB hb2_
  go_wp2_with fail
  go_loopw [10] (fun i wr => ∃ k : Nat, k ≤ L + 1 ∧ i = .int .i64 k ∧ Below w2_.heap.size w2_ wr) (fun i _ => L + 1 - (Go.RowKit.intOf i).toNat)
  case atStart => exact ⟨0, Nat.zero_le _, rfl, Below.refl _ _⟩
  case round =>
    obtain ⟨k, hk, rfl, hb⟩ := hrel
    have x0p_ := keepc hb x0p_
    have y0p_ := keepc hb y0p_
    have x1_ := keepc hb x1_
    have y1_ := keepc hb y1_
    have GH := hide (GH.out.below hb)
    have GN := hide (GN.out.below hb)
    have hB := bcall hB hb
    by_cases hlt : k ≤ L
    · go_wp2
      go_loopw [11] (fun i wi => ∃ j : Nat, j ≤ N ∧ i = .int .i64 j ∧ Below wr.heap.size wr wi) (fun i _ => N - (Go.RowKit.intOf i).toNat)
      case atStart => exact ⟨0, Nat.zero_le _, rfl, Below.refl _ _⟩
      case round =>
        obtain ⟨j, hj, rfl, hbi⟩ := hrel
        have x0p_ := keepc hbi x0p_
        have y0p_ := keepc hbi y0p_
        have x1_ := keepc hbi x1_
        have y1_ := keepc hbi y1_
        have GH := hide (GH.out.below hbi)
        have GN := hide (GN.out.below hbi)
        have hB := bcall hB hbi
        by_cases hlj : j < N
        · obtain ⟨x, hx⟩ : ∃ x, getF ls ((k : Int) + 1) j = x := ⟨_, rfl⟩
          obtain ⟨b0, hb0⟩ : ∃ x, hasS ls ((k : Int) + 1) j = x := ⟨_, rfl⟩
          have hx2 := hide ((hget.out k j hlt hlj).1.trans hx)
          have hs2 := hide (hget.out k j hlt hlj).2
          have hx := hide hx
          have hb0 := hide hb0
          go_wp2_with fail
          (with_reducible refine (Get_c (N : Int) _ ls _ _ _ GH.out x hx.out _ hb0.out).mono ?_)
          rintro e w3_ ⟨rfl, hb3_⟩
          have x0p_ := keepc hb3_ x0p_
          have y0p_ := keepc hb3_ y0p_
          have x1_ := keepc hb3_ x1_
          have y1_ := keepc hb3_ y1_
          have GH := hide (GH.out.below hb3_)
          have GN := hide (GN.out.below hb3_)
          have hB := bcall hB hb3_
          go_wp2_with fail
          (with_reducible refine (Get_c (N : Int) _ R _ _ _ GN.out _ hx2.out _ hs2.out).mono ?_)
          rintro e w4_ ⟨rfl, hb4_⟩
          have x0p_ := keepc hb4_ x0p_
          have y0p_ := keepc hb4_ y0p_
          have x1_ := keepc hb4_ x1_
          have y1_ := keepc hb4_ y1_
          have GH := hide (GH.out.below hb4_)
          have GN := hide (GN.out.below hb4_)
          have hB := bcall hB hb4_
          go_wp2
          go_roundw
          case rel => exact ⟨j + 1, by omega, by go_num, bcall hbi (bcall hb3_ hb4_)⟩
          case measure => simp [Go.RowKit.intOf]; omega
        · go_wp2
          go_roundw
          case rel => exact ⟨k + 1, by omega, by go_num, bcall hb hbi⟩
          case measure => simp [Go.RowKit.intOf]; omega
    · skip
      go_wp2_with fail
      (with_reducible refine (Right_c (N : Int) _ R _ GN.out true hrr.out).mono ?_)
      rintro e w5_ ⟨rfl, hb5_⟩
      have x0p_ := keepc hb5_ x0p_
      have y0p_ := keepc hb5_ y0p_
      have x1_ := keepc hb5_ x1_
      have y1_ := keepc hb5_ y1_
      have GH := hide (GH.out.below hb5_)
      have GN := hide (GN.out.below hb5_)
      have hB := bcall hB hb5_
      go_wp2
      go_ret
      exact ⟨rfl, hB⟩


theorem walk (n : Int) (vh : Value) (ls : Rws) (o : Int) (w : World) (hh : Grid w vh ls) (hf : Fit ls) (ho : 0 ≤ o ∧ o ≤ 255) (hE : EnvH w) :
    Calls Tryd.prog 5 #[hv n vh, .int .u8 o] w fun e w' => e = .returned (.bool true) ∧ Below w.heap.size w w' := by
  cases hr : rightF n ls with
  | false => exact walk_wrong n vh ls o w hh hf ho hE hr
  | true =>
    by_cases hm : o ≤ ls.length
    · exact walk_full1 n vh ls o w hh hf ho hE hr hm
    · by_cases h64 : 64 ≤ ls.length
      · exact walk_full2 n vh ls o w hh hf ho hE hr (by omega) h64
      · obtain ⟨N, rfl⟩ : ∃ N : Nat, n = N := ⟨n.toNat, by have := right_len hr; omega⟩
        exact walk_room N vh ls o w hh hf ho hE hr (by omega) (by omega)

set_option maxRecDepth 100000 in
theorem lifted (os : Os) (started : os.Started) (H : Type) (enc : TypeId × Value → H) :
    ReturnsInHanded {} Tryd.checked os 5 .any (fun w args => (Rows.heapAllocsSpec.pre enc Tryd.prog Tryd.f5 Rows.heapAllocsRow.domain false w args ∧ laidMetH Tryd.prog Rows.heapAllocsRow.laid w) ∧ sizedMet enc Tryd.prog Tryd.f5 (OpenSpec.ofChange Rows.heapAllocsSpec) false w args) (Rows.heapAllocsSpec.post enc Tryd.prog Tryd.f5 false true false false) := by
  refine handed_and_shaped (C := Tryd.checked) (X := fun w _ => laidMetH Tryd.prog Rows.heapAllocsRow.laid w) (fun _ _ _ hh h => h.of_heap hh) ownL started (by kernel_rfl) Tryd.func5
    (ChangeSpec.witness_shaped (enc := enc) (C := Tryd.checked) (os := os) (X := fun w _ => laidMetH Tryd.prog Rows.heapAllocsRow.laid w) false (World.laidAll Tryd.prog os Rows.heapAllocsRow.laid) #[.agg #[.int .i64 0, .slice none 0 0], .int .u8 0] 8 (World.laidAll_os _ _ _)
      (World.shaped_of_ZipB (by kernel_rfl) (by kernel_rfl)) (by kernel_rfl) (by kernel_rfl) (by kernel_rfl)
      (by rw [MakeChecks.laidMetH_plain _ _ _ (by kernel_rfl)]; exact laidMet_laidAll _ (by kernel_rfl) (by kernel_rfl))) ?_
  intro W base args ds gs before hval0 hW hsz0 hL hsh
  have hval : ∀ (j : Nat) t v, Tryd.f5.params[j]? = some t → args[j]? = some v → Value.okWide Tryd.prog W .any base t v := hval0
  have hW' := hW
  obtain ⟨p, q, hA0, hV, rfl, hfz, hnd⟩ := hW
  have hA : DataW.TrodAll enc Tryd.prog W 0 (fun _ => true) true Tryd.f5.params.toList args.toList ds p := hA0
  rw [Tryd.params5] at hA hval
  obtain ⟨v0, vs0, d0, ds0, p0, q0, hargs, rfl, rfl, h0, r0⟩ := trodAll_cons hA
  obtain ⟨v1, vs1, d1, ds1, p1, q1, rfl, rfl, rfl, h1, r1⟩ := trodAll_cons r0
  obtain ⟨rfl, rfl, rfl⟩ := trodAll_nil r1
  obtain rfl : args = #[v0, v1] := by cases args; simp_all
  obtain ⟨rfl, rfl⟩ := trodVars_none hV
  obtain ⟨n0, u0, ls0, rfl, hg0, hn0, hr0, hf0⟩ := open_heap (hval 0 24 v0 rfl rfl) h0
  obtain ⟨a1, rfl, rfl, rfl, w1⟩ := open_int Tryd.underlying5 (hval 1 5 v1 rfl rfl) h1
  have hx1 : 0 ≤ a1 ∧ a1 ≤ 255 := by simpa [Lit.wf, IntKind.min, IntKind.max, IntKind.signed, IntKind.bits] using w1
  have hsz : (DataW.weightsEach Tryd.prog [24, 5] ([d0, .lit (.int .u8 a1)] : List (DataW H))).all (· ≤ reachBytes) = true := hsz0
  have e0 : Fit ls0 := hf0 fun k hk => by have h1 := List.all_eq_true.1 hsz k (DataW.weights_mem_each (j := 0) rfl rfl k hk); simpa [reachBytes] using of_decide_eq_true h1
  have hE := env_of_laid hL
  refine (walk n0 _ ls0 a1 W hg0 e0 hx1 hE).mono fun e W' ⟨he, hg⟩ => ?_
  subst he
  exact ⟨_, rfl, law_post laidOutL (by kernel_rfl) rfl Tryd.underlying4 rfl ⟨rfl, rfl, rfl⟩ hW' hg⟩
theorem row_holds : Rows.HeapAllocsSaid :=
  OpenClaim.holds_of_wide 5 Tryd.f5 rfl rfl rfl rfl rfl rfl rfl ⟨rfl, rfl, rfl, rfl, rfl⟩ rfl rfl rfl rfl rfl (by kernel_rfl) Tryd.func5 (by kernel_rfl)
    (of_decide_eq_true (by kernel_rfl)) (by unfold Func.isWrapper; first | (rw [if_pos (by decide +kernel)]; kernel_rfl) | (rw [if_neg (by decide +kernel)]; exact ⟨rfl, rfl⟩))
    (fun os started H enc _ => lifted os started H enc)

/-- THE STATEMENT -/
theorem proved : Rows.HeapAllocsCardSaid :=
  Claim7.holds_tied_plain_at .later [] Rows.heapAllocsCard.laidKinds true Rows.heapAllocsCard.stood.harness Rows.heapAllocsCard.stood.looks
    row_holds (fun _ h => by cases h) (by kernel_rfl) (fun _ h => by cases h) heapAllocs_row_tie rfl ⟨rfl, rfl⟩ (by kernel_rfl) rfl
    (fun f fn hf hfn => by
      obtain rfl : f = 5 := Option.some.inj ((show Tryd.prog.funcNamed Rows.heapAllocsRow.func = some 5 by kernel_rfl).symm.trans hf) |>.symm
      obtain rfl : fn = Tryd.f5 := (Option.some.inj (Tryd.func5.symm.trans hfn)).symm
      exact ⟨by kernel_rfl, fun j t ht => by
        rw [Tryd.params5] at ht
        have hm : t ∈ [24, 5] := by simpa using Array.mem_of_getElem? ht
        have hall : ([24, 5].all fun u => !Tryd.prog.wantsStandIn u) = true := by kernel_rfl
        exact (show Tryd.prog.wantsStandIn t = false by simpa using List.all_eq_true.1 hall t hm)⟩)
    (by kernel_rfl)
end Go.Proofs.YtnbbjkikplfpoaaDoor.lawHeapAllocs
