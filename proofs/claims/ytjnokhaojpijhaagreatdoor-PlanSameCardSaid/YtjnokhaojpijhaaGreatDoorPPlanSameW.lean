/- Layer plan: the law PlanSame, of plans that are the same, and right. Written by tools/genplanlaw1.py. -/
import Derived.Test.YtjnokhaojpijhaaGreatDoorPbl
import Derived.Test.YtjnokhaojpijhaaGreatDoorPPlanYield
import Derived.Test.YtjnokhaojpijhaaGreatDoorPab
namespace Go.Proofs.YtjnokhaojpijhaaGreatDoor
open Go.RowKit Go.Joins Go.Shelf Go.Proofs
set_option maxRecDepth 100000 in
set_option maxHeartbeats 16000000 in
theorem sameW_tt (a b c d e f g h n : Int) (ob : Value) (s : Nat) (rg pg pk : Value) (lo lr : Rws) (lp : List (List Oq)) (lk : List PP) (ob' rg' pg' pk' : Value) (w : World) (hP : PlanR w ob rg pg pk (⟨a, b, c, d, e, f, g, h, n, lo, s, lr, lp, lk⟩ : Pq)) (hQ : PlanR w ob' rg' pg' pk' (⟨a, b, c, d, e, f, g, h, n, lo, s, lr, lp, lk⟩ : Pq)) (hs : s < 18446744073709551616) (hR : Rng lr) (hE : EnvP w) (k1 : pRight (⟨a, b, c, d, e, f, g, h, n, lo, s, lr, lp, lk⟩ : Pq) = true) :
    Calls Tryz.prog 6 #[planV a b c d e f g h n ob s rg pg pk, planV a b c d e f g h n ob' s rg' pg' pk'] w fun x w' => x = .returned (.bool true) ∧ Below w.heap.size w w' := by
  obtain ⟨w1, e1, hb1, hs1, X⟩ := bp_new w a b c d e f g h n ob s rg pg pk 30
  obtain ⟨w2, e2, hb2, hs2, Y⟩ := bp_new w1 a b c d e f g h n ob' s rg' pg' pk' 30
  rw [hs1] at Y
  rw [← e1] at e2
  have HE := hide e2
  have hb12 := bcall hb1 hb2
  have HB2 := hide hb12
  have HX := hide (X.below hb2)
  have HY := hide Y
  have HP := hide (hP.below hb12)
  have HQ := hide (hQ.below hb12)
  have HEn := hide (hE.below hb12)
  have HBC := hide (Below.refl w2.heap.size w2)
  have HS := hide hs
  have HR := hide hR
  have K1 := hide k1
  obtain ⟨rb, hrb⟩ : ∃ r, wrap64 (wrap64 (f + a) + b) = r := ⟨_, rfl⟩
  obtain ⟨rn, hrn⟩ : ∃ r, grF s lr lr.length = r := ⟨_, rfl⟩
  obtain ⟨rw_, hrw⟩ : ∃ r, wrap64 ((lp.map cWrites).sum : Nat) = r := ⟨_, rfl⟩
  have HRB := hide hrb
  have HRN := hide hrn
  have HRW := hide hrw
  clear hrb hrn hrw
  obtain ⟨T, hT⟩ : ∃ T, pText (⟨a, b, c, d, e, f, g, h, n, lo, s, lr, lp, lk⟩ : Pq) = T := ⟨_, rfl⟩
  have HT := hide hT
  clear hT
  clear e2 X Y hb1 hb2 hb12 hs1 hs2 hP hQ hs hR hE k1 e1
  obtain ⟨⟨x0, x1, x2, x3, x4, x5, x6, x7, x8, x9, xa, xb, xc, xd⟩, y0, y1, y2, y3, y4, y5, y6, y7, y8, y9, ya, yb, yc, yd⟩ := HX.out.two HY.out HBC.out
  unfold planV
  go_enter Tryz.func6, Tryz.ntmps6
  go_wp2_with fail
  rw [HE.out]
  (with_reducible refine (examples_anyPl _ (HEn.out.below HBC.out)).mono ?_)
  rintro x w10 ⟨rfl, hb⟩
  have HBC := hide (bcall HBC.out hb)
  clear hb
  clear x0 x1 x2 x3 x4 x5 x6 x7 x8 x9 xa xb xc xd y0 y1 y2 y3 y4 y5 y6 y7 y8 y9 ya yb yc yd
  obtain ⟨⟨x0, x1, x2, x3, x4, x5, x6, x7, x8, x9, xa, xb, xc, xd⟩, y0, y1, y2, y3, y4, y5, y6, y7, y8, y9, ya, yb, yc, yd⟩ := HX.out.two HY.out HBC.out
  go_wp2_with fail
  (with_reducible refine (pSame_c a b c d e f g h n ob s rg pg pk lo lr lp lk a b c d e f g h n ob' s rg' pg' pk' lo lr lp lk _ (HP.out.below HBC.out) (HQ.out.below HBC.out) true (decide_eq_true rfl)).mono ?_)
  rintro x w11 ⟨rfl, hb⟩
  have HBC := hide (bcall HBC.out hb)
  clear hb
  clear x0 x1 x2 x3 x4 x5 x6 x7 x8 x9 xa xb xc xd y0 y1 y2 y3 y4 y5 y6 y7 y8 y9 ya yb yc yd
  obtain ⟨⟨x0, x1, x2, x3, x4, x5, x6, x7, x8, x9, xa, xb, xc, xd⟩, y0, y1, y2, y3, y4, y5, y6, y7, y8, y9, ya, yb, yc, yd⟩ := HX.out.two HY.out HBC.out
  go_upto_region 5 with (fail)
  clear x0 x1 x2 x3 x4 x5 x6 x7 x8 x9 xa xb xc xd y0 y1 y2 y3 y4 y5 y6 y7 y8 y9 ya yb yc yd
  have HBC := hide (belowD HBC.out)
  simp only [List.append_eq, List.cons_append, List.nil_append]
  refine wp_region_held_drew (S := fun w' => Bp 30 w' w.heap.size a b c d e f g h n ob s rg pg pk ∧ Bp 30 w' (w.heap.size + 1) a b c d e f g h n ob' s rg' pg' pk') (by kernel_rfl) ?_ (fun hHeld => ?_)
  · exact (by exact ⟨HX.out.below HBC.out, HY.out.below HBC.out⟩)
  refine tkH 0 ⟨some 13, .move (.tmp 5), 4, "keeps.go:69", #[], none⟩ (h := ?_)
  refine tkH 1 ⟨some 14, .move (.tmp 13), 4, "keeps.go:69", #[⟨0, .data⟩], none⟩ (h := ?_)
  refine wpAnyH_take (i := 2) (oi := { dst := some 15, op := Op.load 30 (Operand.tmp 2), type := 30, pos := "keeps.go:69", after := #[{ on := 1, ground := Ground.guard }], guard := some (1, true) }) (v := planV a b c d e f g h n ob s rg pg pk) rfl (by kernel_rfl) (by kernel_rfl) (by kernel_rfl) (fun _ _ _ h => h) (yields_plan (by rfl) (.tmp 2) rfl (w.heap.size) rfl (fun _ h => h.1)) (by assumption) ?_
  (try simp only [Act.put, List.setIfInBounds_toArray, List.set_cons_zero, List.set_cons_succ])
  refine wpAnyH_take (i := 3) (oi := { dst := some 16, op := Op.load 30 (Operand.tmp 2), type := 30, pos := "keeps.go:69", after := #[{ on := 1, ground := Ground.guard }], guard := some (1, true) }) (v := planV a b c d e f g h n ob s rg pg pk) rfl (by kernel_rfl) (by kernel_rfl) (by kernel_rfl) (fun _ _ _ h => h) (yields_plan (by rfl) (.tmp 2) rfl (w.heap.size) rfl (fun _ h => h.1)) (by assumption) ?_
  (try simp only [Act.put, List.setIfInBounds_toArray, List.set_cons_zero, List.set_cons_succ])
  refine wpAnyH_ready (rs := [4]) (by kernel_rfl) (by simp) ?_
  refine AllReadyH.cons rfl (fun K hK => ?_) AllReadyH.nil
  go_simp
  go_at_call 14
  (with_reducible refine (pSame_c a b c d e f g h n ob s rg pg pk lo lr lp lk a b c d e f g h n ob s rg pg pk lo lr lp lk _ (HP.out.below HBC.out) (HP.out.below HBC.out) true (decide_eq_true rfl)).mono ?_)
  rintro x w24 ⟨rfl, hb⟩
  have HBC := hide (bcall HBC.out hb)
  clear hb
  (try go_simp)
  refine hK.out _ _ (by exact ⟨HX.out.below HBC.out, HY.out.below HBC.out⟩) (fun hHeld => ?_)
  (try simp only [Act.put, List.setIfInBounds_toArray, List.set_cons_zero, List.set_cons_succ])
  refine tkH 5 ⟨some 18, .pick (.tmp 14) (.tmp 17) (.const (.bool false)), 4, "keeps.go:69", #[⟨1, .data⟩, ⟨4, .data⟩], none⟩ (h := ?_)
  refine tkH 6 ⟨some 19, .move (.tmp 18), 4, "keeps.go:69", #[⟨5, .data⟩, ⟨4, .chain⟩], none⟩ (h := ?_)
  refine tkH 7 ⟨some 20, .move (.tmp 6), 4, "keeps.go:69", #[⟨6, .guard⟩], some (6, true)⟩ (h := ?_)
  refine wpAnyH_take (i := 8) (oi := { dst := some 21, op := Op.load 30 (Operand.tmp 3), type := 30, pos := "keeps.go:69", after := #[{ on := 6, ground := Ground.guard }], guard := some (6, true) }) (v := planV a b c d e f g h n ob' s rg' pg' pk') rfl (by kernel_rfl) (by kernel_rfl) (by kernel_rfl) (fun _ _ _ h => h) (yields_plan (by rfl) (.tmp 3) rfl (w.heap.size + 1) rfl (fun _ h => h.2)) (by assumption) ?_
  (try simp only [Act.put, List.setIfInBounds_toArray, List.set_cons_zero, List.set_cons_succ])
  refine wpAnyH_take (i := 9) (oi := { dst := some 22, op := Op.load 30 (Operand.tmp 2), type := 30, pos := "keeps.go:69", after := #[{ on := 6, ground := Ground.guard }], guard := some (6, true) }) (v := planV a b c d e f g h n ob s rg pg pk) rfl (by kernel_rfl) (by kernel_rfl) (by kernel_rfl) (fun _ _ _ h => h) (yields_plan (by rfl) (.tmp 2) rfl (w.heap.size) rfl (fun _ h => h.1)) (by assumption) ?_
  (try simp only [Act.put, List.setIfInBounds_toArray, List.set_cons_zero, List.set_cons_succ])
  refine wpAnyH_ready (rs := [10]) (by kernel_rfl) (by simp) ?_
  refine AllReadyH.cons rfl (fun K hK => ?_) AllReadyH.nil
  go_simp
  go_at_call 14
  (with_reducible refine (pSame_c a b c d e f g h n ob' s rg' pg' pk' lo lr lp lk a b c d e f g h n ob s rg pg pk lo lr lp lk _ (HQ.out.below HBC.out) (HP.out.below HBC.out) true (decide_eq_true rfl)).mono ?_)
  rintro x w30 ⟨rfl, hb⟩
  have HBC := hide (bcall HBC.out hb)
  clear hb
  (try go_simp)
  refine hK.out _ _ (by exact ⟨HX.out.below HBC.out, HY.out.below HBC.out⟩) (fun hHeld => ?_)
  (try simp only [Act.put, List.setIfInBounds_toArray, List.set_cons_zero, List.set_cons_succ])
  refine tkH 11 ⟨some 24, .binOp .eql 4 (.tmp 20) (.tmp 23) 4, 4, "keeps.go:69", #[⟨7, .data⟩, ⟨10, .data⟩, ⟨6, .guard⟩], some (6, true)⟩ (h := ?_)
  refine tkH 12 ⟨some 25, .pick (.tmp 19) (.tmp 24) (.const (.bool false)), 4, "keeps.go:69", #[⟨6, .data⟩, ⟨11, .data⟩], none⟩ (h := ?_)
  refine tkH 13 ⟨some 26, .move (.tmp 25), 4, "keeps.go:69", #[⟨12, .data⟩, ⟨10, .chain⟩], none⟩ (h := ?_)
  refine wpAnyH_take (i := 14) (oi := { dst := some 27, op := Op.load 30 (Operand.tmp 2), type := 30, pos := "keeps.go:69", after := #[{ on := 13, ground := Ground.guard }], guard := some (13, true) }) (v := planV a b c d e f g h n ob s rg pg pk) rfl (by kernel_rfl) (by kernel_rfl) (by kernel_rfl) (fun _ _ _ h => h) (yields_plan (by rfl) (.tmp 2) rfl (w.heap.size) rfl (fun _ h => h.1)) (by assumption) ?_
  (try simp only [Act.put, List.setIfInBounds_toArray, List.set_cons_zero, List.set_cons_succ])
  refine wpAnyH_ready (rs := [15]) (by kernel_rfl) (by simp) ?_
  refine AllReadyH.cons rfl (fun K hK => ?_) AllReadyH.nil
  go_simp
  go_at_call 16
  (with_reducible refine (pRight_c a b c d e f g h n ob s rg pg pk lo lr lp lk _ HS.out (HP.out.below HBC.out) true K1.out).mono ?_)
  rintro x w35 ⟨rfl, hb⟩
  have HBC := hide (bcall HBC.out hb)
  clear hb
  (try go_simp)
  refine hK.out _ _ (by exact ⟨HX.out.below HBC.out, HY.out.below HBC.out⟩) (fun hHeld => ?_)
  (try simp only [Act.put, List.setIfInBounds_toArray, List.set_cons_zero, List.set_cons_succ])
  refine tkH 16 ⟨some 29, .unOp .not 4 (.tmp 28), 4, "keeps.go:69", #[⟨15, .data⟩, ⟨13, .guard⟩], some (13, true)⟩ (h := ?_)
  refine tkH 17 ⟨some 30, .move (.tmp 29), 4, "keeps.go:69", #[⟨16, .data⟩, ⟨15, .chain⟩, ⟨13, .guard⟩], some (13, true)⟩ (h := ?_)
  refine wpAnyH_take (i := 18) (oi := { dst := some 31, op := Op.load 30 (Operand.tmp 3), type := 30, pos := "keeps.go:69", after := #[{ on := 17, ground := Ground.guard }], guard := some (17, false) }) (v := planV a b c d e f g h n ob' s rg' pg' pk') rfl (by kernel_rfl) (by kernel_rfl) (by kernel_rfl) (fun _ _ _ h => h) (yields_plan (by rfl) (.tmp 3) rfl (w.heap.size + 1) rfl (fun _ h => h.2)) (by assumption) ?_
  (try simp only [Act.put, List.setIfInBounds_toArray, List.set_cons_zero, List.set_cons_succ])
  refine wpAnyH_ready (rs := [19]) (by kernel_rfl) (by simp) ?_
  refine AllReadyH.cons rfl (fun K hK => ?_) AllReadyH.nil
  go_simp
  go_at_call 16
  (with_reducible refine (pRight_c a b c d e f g h n ob' s rg' pg' pk' lo lr lp lk _ HS.out (HQ.out.below HBC.out) true K1.out).mono ?_)
  rintro x w39 ⟨rfl, hb⟩
  have HBC := hide (bcall HBC.out hb)
  clear hb
  (try go_simp)
  refine hK.out _ _ (by exact ⟨HX.out.below HBC.out, HY.out.below HBC.out⟩) (fun hHeld => ?_)
  (try simp only [Act.put, List.setIfInBounds_toArray, List.set_cons_zero, List.set_cons_succ])
  refine tkH 20 ⟨some 33, .unOp .not 4 (.tmp 32), 4, "keeps.go:69", #[⟨19, .data⟩, ⟨17, .guard⟩], some (17, false)⟩ (h := ?_)
  refine tkH 21 ⟨some 34, .pick (.tmp 30) (.const (.bool true)) (.tmp 33), 4, "keeps.go:69", #[⟨17, .data⟩, ⟨20, .data⟩, ⟨13, .guard⟩], some (13, true)⟩ (h := ?_)
  refine tkH 22 ⟨some 35, .move (.tmp 34), 4, "keeps.go:69", #[⟨21, .data⟩, ⟨19, .chain⟩, ⟨13, .guard⟩], some (13, true)⟩ (h := ?_)
  refine tkH 23 ⟨some 36, .move (.tmp 6), 4, "keeps.go:69", #[⟨22, .guard⟩], some (22, false)⟩ (h := ?_)
  refine wpAnyH_take (i := 24) (oi := { dst := some 37, op := Op.load 30 (Operand.tmp 2), type := 30, pos := "keeps.go:69", after := #[{ on := 22, ground := Ground.guard }], guard := some (22, false) }) (v := planV a b c d e f g h n ob s rg pg pk) rfl (by kernel_rfl) (by kernel_rfl) (by kernel_rfl) (fun _ _ _ h => h) (yields_plan (by rfl) (.tmp 2) rfl (w.heap.size) rfl (fun _ h => h.1)) (by assumption) ?_
  (try simp only [Act.put, List.setIfInBounds_toArray, List.set_cons_zero, List.set_cons_succ])
  refine wpAnyH_take (i := 26) (oi := { dst := some 39, op := Op.load 30 (Operand.tmp 3), type := 30, pos := "keeps.go:69", after := #[{ on := 22, ground := Ground.guard }], guard := some (22, false) }) (v := planV a b c d e f g h n ob' s rg' pg' pk') rfl (by kernel_rfl) (by kernel_rfl) (by kernel_rfl) (fun _ _ _ h => h) (yields_plan (by rfl) (.tmp 3) rfl (w.heap.size + 1) rfl (fun _ h => h.2)) (by assumption) ?_
  (try simp only [Act.put, List.setIfInBounds_toArray, List.set_cons_zero, List.set_cons_succ])
  refine wpAnyH_ready (rs := [25]) (by kernel_rfl) (by simp) ?_
  refine AllReadyH.cons rfl (fun K hK => ?_) AllReadyH.nil
  go_simp
  go_at_call 26
  (with_reducible refine (pText_any a b c d e f g h n ob s rg pg pk lo lr lp lk _ HS.out (HP.out.below HBC.out) (HEn.out.below HBC.out) T HT.out).mono ?_)
  rintro x w45 ⟨rfl, hb⟩
  have HBC := hide (bcall HBC.out hb)
  clear hb
  (try go_simp)
  refine hK.out _ _ (by exact ⟨HX.out.below HBC.out, HY.out.below HBC.out⟩) (fun hHeld => ?_)
  (try simp only [Act.put, List.setIfInBounds_toArray, List.set_cons_zero, List.set_cons_succ])
  refine wpAnyH_ready (rs := [27]) (by kernel_rfl) (by simp) ?_
  refine AllReadyH.cons rfl (fun K hK => ?_) AllReadyH.nil
  go_simp
  go_at_call 26
  (with_reducible refine (pText_any a b c d e f g h n ob' s rg' pg' pk' lo lr lp lk _ HS.out (HQ.out.below HBC.out) (HEn.out.below HBC.out) T HT.out).mono ?_)
  rintro x w47 ⟨rfl, hb⟩
  have HBC := hide (bcall HBC.out hb)
  clear hb
  (try go_simp)
  refine hK.out _ _ (by exact ⟨HX.out.below HBC.out, HY.out.below HBC.out⟩) (fun hHeld => ?_)
  (try simp only [Act.put, List.setIfInBounds_toArray, List.set_cons_zero, List.set_cons_succ])
  refine tkH 28 ⟨some 41, .binOp .eql 9 (.tmp 38) (.tmp 40) 9, 4, "keeps.go:69", #[⟨25, .data⟩, ⟨27, .data⟩, ⟨22, .guard⟩], some (22, false)⟩ (h := ?_)
  refine tkH 29 ⟨some 42, .binOp .eql 4 (.tmp 36) (.tmp 41) 4, 4, "keeps.go:69", #[⟨23, .data⟩, ⟨28, .data⟩, ⟨22, .guard⟩], some (22, false)⟩ (h := ?_)
  refine tkH 30 ⟨some 43, .pick (.tmp 35) (.const (.bool true)) (.tmp 42), 4, "keeps.go:69", #[⟨22, .data⟩, ⟨29, .data⟩, ⟨13, .guard⟩], some (13, true)⟩ (h := ?_)
  refine tkH 31 ⟨some 44, .pick (.tmp 26) (.tmp 43) (.const (.bool false)), 4, "keeps.go:69", #[⟨13, .data⟩, ⟨30, .data⟩], none⟩ (h := ?_)
  refine tkH 32 ⟨some 45, .move (.tmp 44), 4, "keeps.go:69", #[⟨31, .data⟩, ⟨27, .chain⟩], none⟩ (h := ?_)
  refine tkH 33 ⟨some 46, .move (.tmp 6), 4, "keeps.go:69", #[⟨32, .guard⟩], some (32, true)⟩ (h := ?_)
  refine tkH 34 ⟨some 47, .unOp .not 4 (.tmp 46), 4, "keeps.go:69", #[⟨33, .data⟩, ⟨32, .guard⟩], some (32, true)⟩ (h := ?_)
  refine tkH 35 ⟨some 48, .move (.tmp 47), 4, "keeps.go:69", #[⟨34, .data⟩, ⟨32, .chain⟩, ⟨32, .guard⟩], some (32, true)⟩ (h := ?_)
  refine wpAnyH_take (i := 36) (oi := { dst := some 49, op := Op.load 30 (Operand.tmp 2), type := 30, pos := "keeps.go:69", after := #[{ on := 35, ground := Ground.guard }], guard := some (35, false) }) (v := planV a b c d e f g h n ob s rg pg pk) rfl (by kernel_rfl) (by kernel_rfl) (by kernel_rfl) (fun _ _ _ h => h) (yields_plan (by rfl) (.tmp 2) rfl (w.heap.size) rfl (fun _ h => h.1)) (by assumption) ?_
  (try simp only [Act.put, List.setIfInBounds_toArray, List.set_cons_zero, List.set_cons_succ])
  refine wpAnyH_take (i := 38) (oi := { dst := some 51, op := Op.load 30 (Operand.tmp 3), type := 30, pos := "keeps.go:69", after := #[{ on := 35, ground := Ground.guard }], guard := some (35, false) }) (v := planV a b c d e f g h n ob' s rg' pg' pk') rfl (by kernel_rfl) (by kernel_rfl) (by kernel_rfl) (fun _ _ _ h => h) (yields_plan (by rfl) (.tmp 3) rfl (w.heap.size + 1) rfl (fun _ h => h.2)) (by assumption) ?_
  (try simp only [Act.put, List.setIfInBounds_toArray, List.set_cons_zero, List.set_cons_succ])
  refine wpAnyH_ready (rs := [37]) (by kernel_rfl) (by simp) ?_
  refine AllReadyH.cons rfl (fun K hK => ?_) AllReadyH.nil
  go_simp
  go_at_call 18
  (with_reducible refine (pBins_c a b c d e f g h n ob s rg pg pk _ rb HRB.out).mono ?_)
  rintro x w57 ⟨rfl, hb⟩
  have HBC := hide (bcall HBC.out hb)
  clear hb
  (try go_simp)
  refine hK.out _ _ (by exact ⟨HX.out.below HBC.out, HY.out.below HBC.out⟩) (fun hHeld => ?_)
  (try simp only [Act.put, List.setIfInBounds_toArray, List.set_cons_zero, List.set_cons_succ])
  refine wpAnyH_ready (rs := [39]) (by kernel_rfl) (by simp) ?_
  refine AllReadyH.cons rfl (fun K hK => ?_) AllReadyH.nil
  go_simp
  go_at_call 18
  (with_reducible refine (pBins_c a b c d e f g h n ob' s rg' pg' pk' _ rb HRB.out).mono ?_)
  rintro x w59 ⟨rfl, hb⟩
  have HBC := hide (bcall HBC.out hb)
  clear hb
  (try go_simp)
  refine hK.out _ _ (by exact ⟨HX.out.below HBC.out, HY.out.below HBC.out⟩) (fun hHeld => ?_)
  (try simp only [Act.put, List.setIfInBounds_toArray, List.set_cons_zero, List.set_cons_succ])
  refine tkH 40 ⟨some 53, .binOp .eql 3 (.tmp 50) (.tmp 52) 3, 4, "keeps.go:69", #[⟨37, .data⟩, ⟨39, .data⟩, ⟨35, .guard⟩], some (35, false)⟩ (h := ?_)
  refine tkH 41 ⟨some 54, .move (.tmp 53), 4, "keeps.go:69", #[⟨40, .data⟩, ⟨39, .chain⟩, ⟨35, .guard⟩], some (35, false)⟩ (h := ?_)
  refine wpAnyH_take (i := 42) (oi := { dst := some 55, op := Op.load 30 (Operand.tmp 2), type := 30, pos := "keeps.go:69", after := #[{ on := 41, ground := Ground.guard }], guard := some (41, true) }) (v := planV a b c d e f g h n ob s rg pg pk) rfl (by kernel_rfl) (by kernel_rfl) (by kernel_rfl) (fun _ _ _ h => h) (yields_plan (by rfl) (.tmp 2) rfl (w.heap.size) rfl (fun _ h => h.1)) (by assumption) ?_
  (try simp only [Act.put, List.setIfInBounds_toArray, List.set_cons_zero, List.set_cons_succ])
  refine wpAnyH_take (i := 44) (oi := { dst := some 57, op := Op.load 30 (Operand.tmp 3), type := 30, pos := "keeps.go:69", after := #[{ on := 41, ground := Ground.guard }], guard := some (41, true) }) (v := planV a b c d e f g h n ob' s rg' pg' pk') rfl (by kernel_rfl) (by kernel_rfl) (by kernel_rfl) (fun _ _ _ h => h) (yields_plan (by rfl) (.tmp 3) rfl (w.heap.size + 1) rfl (fun _ h => h.2)) (by assumption) ?_
  (try simp only [Act.put, List.setIfInBounds_toArray, List.set_cons_zero, List.set_cons_succ])
  refine wpAnyH_ready (rs := [43]) (by kernel_rfl) (by simp) ?_
  refine AllReadyH.cons rfl (fun K hK => ?_) AllReadyH.nil
  go_simp
  go_at_call 20
  (with_reducible refine (pGreys_c a b c d e f g h n ob s rg pg pk lr _ HS.out (HP.out.rg.below HBC.out) HR.out rn HRN.out).mono ?_)
  rintro x w63 ⟨rfl, hb⟩
  have HBC := hide (bcall HBC.out hb)
  clear hb
  (try go_simp)
  refine hK.out _ _ (by exact ⟨HX.out.below HBC.out, HY.out.below HBC.out⟩) (fun hHeld => ?_)
  (try simp only [Act.put, List.setIfInBounds_toArray, List.set_cons_zero, List.set_cons_succ])
  refine wpAnyH_ready (rs := [45]) (by kernel_rfl) (by simp) ?_
  refine AllReadyH.cons rfl (fun K hK => ?_) AllReadyH.nil
  go_simp
  go_at_call 20
  (with_reducible refine (pGreys_c a b c d e f g h n ob' s rg' pg' pk' lr _ HS.out (HQ.out.rg.below HBC.out) HR.out rn HRN.out).mono ?_)
  rintro x w65 ⟨rfl, hb⟩
  have HBC := hide (bcall HBC.out hb)
  clear hb
  (try go_simp)
  refine hK.out _ _ (by exact ⟨HX.out.below HBC.out, HY.out.below HBC.out⟩) (fun hHeld => ?_)
  (try simp only [Act.put, List.setIfInBounds_toArray, List.set_cons_zero, List.set_cons_succ])
  refine tkH 46 ⟨some 59, .binOp .eql 26 (.tmp 56) (.tmp 58) 26, 4, "keeps.go:69", #[⟨43, .data⟩, ⟨45, .data⟩, ⟨41, .guard⟩], some (41, true)⟩ (h := ?_)
  refine tkH 47 ⟨some 60, .pick (.tmp 54) (.tmp 59) (.const (.bool false)), 4, "keeps.go:69", #[⟨41, .data⟩, ⟨46, .data⟩, ⟨35, .guard⟩], some (35, false)⟩ (h := ?_)
  refine tkH 48 ⟨some 61, .move (.tmp 60), 4, "keeps.go:69", #[⟨47, .data⟩, ⟨45, .chain⟩, ⟨35, .guard⟩], some (35, false)⟩ (h := ?_)
  refine wpAnyH_take (i := 49) (oi := { dst := some 62, op := Op.load 30 (Operand.tmp 2), type := 30, pos := "keeps.go:69", after := #[{ on := 48, ground := Ground.guard }], guard := some (48, true) }) (v := planV a b c d e f g h n ob s rg pg pk) rfl (by kernel_rfl) (by kernel_rfl) (by kernel_rfl) (fun _ _ _ h => h) (yields_plan (by rfl) (.tmp 2) rfl (w.heap.size) rfl (fun _ h => h.1)) (by assumption) ?_
  (try simp only [Act.put, List.setIfInBounds_toArray, List.set_cons_zero, List.set_cons_succ])
  refine wpAnyH_take (i := 51) (oi := { dst := some 64, op := Op.load 30 (Operand.tmp 3), type := 30, pos := "keeps.go:69", after := #[{ on := 48, ground := Ground.guard }], guard := some (48, true) }) (v := planV a b c d e f g h n ob' s rg' pg' pk') rfl (by kernel_rfl) (by kernel_rfl) (by kernel_rfl) (fun _ _ _ h => h) (yields_plan (by rfl) (.tmp 3) rfl (w.heap.size + 1) rfl (fun _ h => h.2)) (by assumption) ?_
  (try simp only [Act.put, List.setIfInBounds_toArray, List.set_cons_zero, List.set_cons_succ])
  refine wpAnyH_ready (rs := [50]) (by kernel_rfl) (by simp) ?_
  refine AllReadyH.cons rfl (fun K hK => ?_) AllReadyH.nil
  go_simp
  go_at_call 24
  (with_reducible refine (pWrites_c a b c d e f g h n ob s rg pg pk lp _ (HP.out.pg.below HBC.out) rw_ HRW.out).mono ?_)
  rintro x w70 ⟨rfl, hb⟩
  have HBC := hide (bcall HBC.out hb)
  clear hb
  (try go_simp)
  refine hK.out _ _ (by exact ⟨HX.out.below HBC.out, HY.out.below HBC.out⟩) (fun hHeld => ?_)
  (try simp only [Act.put, List.setIfInBounds_toArray, List.set_cons_zero, List.set_cons_succ])
  refine wpAnyH_ready (rs := [52]) (by kernel_rfl) (by simp) ?_
  refine AllReadyH.cons rfl (fun K hK => ?_) AllReadyH.nil
  go_simp
  go_at_call 24
  (with_reducible refine (pWrites_c a b c d e f g h n ob' s rg' pg' pk' lp _ (HQ.out.pg.below HBC.out) rw_ HRW.out).mono ?_)
  rintro x w72 ⟨rfl, hb⟩
  have HBC := hide (bcall HBC.out hb)
  clear hb
  (try go_simp)
  refine hK.out _ _ (by exact ⟨HX.out.below HBC.out, HY.out.below HBC.out⟩) (fun hHeld => ?_)
  (try simp only [Act.put, List.setIfInBounds_toArray, List.set_cons_zero, List.set_cons_succ])
  refine tkH 53 ⟨some 66, .binOp .eql 3 (.tmp 63) (.tmp 65) 3, 4, "keeps.go:69", #[⟨50, .data⟩, ⟨52, .data⟩, ⟨48, .guard⟩], some (48, true)⟩ (h := ?_)
  refine tkH 54 ⟨some 67, .pick (.tmp 61) (.tmp 66) (.const (.bool false)), 4, "keeps.go:69", #[⟨48, .data⟩, ⟨53, .data⟩, ⟨35, .guard⟩], some (35, false)⟩ (h := ?_)
  refine tkH 55 ⟨some 68, .move (.tmp 67), 4, "keeps.go:69", #[⟨54, .data⟩, ⟨52, .chain⟩, ⟨35, .guard⟩], some (35, false)⟩ (h := ?_)
  refine wpAnyH_take (i := 56) (oi := { dst := some 69, op := Op.load 30 (Operand.tmp 2), type := 30, pos := "keeps.go:69", after := #[{ on := 55, ground := Ground.guard }], guard := some (55, true) }) (v := planV a b c d e f g h n ob s rg pg pk) rfl (by kernel_rfl) (by kernel_rfl) (by kernel_rfl) (fun _ _ _ h => h) (yields_plan (by rfl) (.tmp 2) rfl (w.heap.size) rfl (fun _ h => h.1)) (by assumption) ?_
  (try simp only [Act.put, List.setIfInBounds_toArray, List.set_cons_zero, List.set_cons_succ])
  refine wpAnyH_take (i := 58) (oi := { dst := some 71, op := Op.load 30 (Operand.tmp 3), type := 30, pos := "keeps.go:69", after := #[{ on := 55, ground := Ground.guard }], guard := some (55, true) }) (v := planV a b c d e f g h n ob' s rg' pg' pk') rfl (by kernel_rfl) (by kernel_rfl) (by kernel_rfl) (fun _ _ _ h => h) (yields_plan (by rfl) (.tmp 3) rfl (w.heap.size + 1) rfl (fun _ h => h.2)) (by assumption) ?_
  (try simp only [Act.put, List.setIfInBounds_toArray, List.set_cons_zero, List.set_cons_succ])
  refine wpAnyH_ready (rs := [57]) (by kernel_rfl) (by simp) ?_
  refine AllReadyH.cons rfl (fun K hK => ?_) AllReadyH.nil
  go_simp
  go_at_call 16
  (with_reducible refine (pRight_c a b c d e f g h n ob s rg pg pk lo lr lp lk _ HS.out (HP.out.below HBC.out) true K1.out).mono ?_)
  rintro x w77 ⟨rfl, hb⟩
  have HBC := hide (bcall HBC.out hb)
  clear hb
  (try go_simp)
  refine hK.out _ _ (by exact ⟨HX.out.below HBC.out, HY.out.below HBC.out⟩) (fun hHeld => ?_)
  (try simp only [Act.put, List.setIfInBounds_toArray, List.set_cons_zero, List.set_cons_succ])
  refine wpAnyH_ready (rs := [59]) (by kernel_rfl) (by simp) ?_
  refine AllReadyH.cons rfl (fun K hK => ?_) AllReadyH.nil
  go_simp
  go_at_call 16
  (with_reducible refine (pRight_c a b c d e f g h n ob' s rg' pg' pk' lo lr lp lk _ HS.out (HQ.out.below HBC.out) true K1.out).mono ?_)
  rintro x w79 ⟨rfl, hb⟩
  have HBC := hide (bcall HBC.out hb)
  clear hb
  (try go_simp)
  refine hK.out _ _ (by exact ⟨HX.out.below HBC.out, HY.out.below HBC.out⟩) (fun hHeld => ?_)
  (try simp only [Act.put, List.setIfInBounds_toArray, List.set_cons_zero, List.set_cons_succ])
  refine tkH 60 ⟨some 73, .binOp .eql 4 (.tmp 70) (.tmp 72) 4, 4, "keeps.go:69", #[⟨57, .data⟩, ⟨59, .data⟩, ⟨55, .guard⟩], some (55, true)⟩ (h := ?_)
  refine tkH 61 ⟨some 74, .pick (.tmp 68) (.tmp 73) (.const (.bool false)), 4, "keeps.go:69", #[⟨55, .data⟩, ⟨60, .data⟩, ⟨35, .guard⟩], some (35, false)⟩ (h := ?_)
  refine tkH 62 ⟨some 75, .pick (.tmp 48) (.const (.bool true)) (.tmp 74), 4, "keeps.go:69", #[⟨35, .data⟩, ⟨61, .data⟩, ⟨32, .guard⟩], some (32, true)⟩ (h := ?_)
  refine tkH 63 ⟨some 76, .pick (.tmp 45) (.tmp 75) (.const (.bool false)), 4, "keeps.go:69", #[⟨32, .data⟩, ⟨62, .data⟩], none⟩ (h := ?_)
  refine tkH 64 ⟨some 4, .assign (.tmp 76), 4, "keeps.go:69", #[⟨63, .data⟩, ⟨59, .chain⟩, ⟨0, .phase⟩, ⟨1, .phase⟩, ⟨2, .phase⟩, ⟨3, .phase⟩, ⟨4, .phase⟩, ⟨5, .phase⟩, ⟨6, .phase⟩, ⟨7, .phase⟩, ⟨8, .phase⟩, ⟨9, .phase⟩, ⟨10, .phase⟩, ⟨11, .phase⟩, ⟨12, .phase⟩, ⟨13, .phase⟩, ⟨14, .phase⟩, ⟨15, .phase⟩, ⟨16, .phase⟩, ⟨17, .phase⟩, ⟨18, .phase⟩, ⟨19, .phase⟩, ⟨20, .phase⟩, ⟨21, .phase⟩, ⟨22, .phase⟩, ⟨23, .phase⟩, ⟨24, .phase⟩, ⟨25, .phase⟩, ⟨26, .phase⟩, ⟨27, .phase⟩, ⟨28, .phase⟩, ⟨29, .phase⟩, ⟨30, .phase⟩, ⟨31, .phase⟩, ⟨32, .phase⟩, ⟨33, .phase⟩, ⟨34, .phase⟩, ⟨35, .phase⟩, ⟨36, .phase⟩, ⟨37, .phase⟩, ⟨38, .phase⟩, ⟨39, .phase⟩, ⟨40, .phase⟩, ⟨41, .phase⟩, ⟨42, .phase⟩, ⟨43, .phase⟩, ⟨44, .phase⟩, ⟨45, .phase⟩, ⟨46, .phase⟩, ⟨47, .phase⟩, ⟨48, .phase⟩, ⟨49, .phase⟩, ⟨50, .phase⟩, ⟨51, .phase⟩, ⟨52, .phase⟩, ⟨53, .phase⟩, ⟨54, .phase⟩, ⟨55, .phase⟩, ⟨56, .phase⟩, ⟨57, .phase⟩, ⟨58, .phase⟩, ⟨59, .phase⟩, ⟨60, .phase⟩, ⟨61, .phase⟩, ⟨62, .phase⟩, ⟨63, .phase⟩], none⟩ (h := ?_)
  refine wpAnyH_done (by kernel_rfl) ?_ _
  go_wp2
  go_ret
  exact ⟨rfl, bcall HB2.out HBC.out⟩
end Go.Proofs.YtjnokhaojpijhaaGreatDoor
