/- BagOnce: for any set, a number: what is a set's list is one, once; said twice it is none. No condition beyond what is laid. -/
import Derived.Test.YtggfckednjojgaaDoorBagTied
namespace Go.Proofs.YtggfckednjojgaaDoor.lawBagOnce
open Go.RowKit Go.WideShapes Go.ChangeShapes Go.ChangeAt Go.Proofs Go.Proofs.YtggfckednjojgaaDoor

set_option maxRecDepth 100000 in
set_option maxHeartbeats 8000000 in
theorem walk_low (s : Nat) (o : Int) (w : World) (hs : s < 18446744073709551616) (ho : Kw o) (hE : EnvT w) (hx : o < 1) : Calls Tryd.prog 3 #[.int .u64 s, .int .i64 o] w fun e w' => e = .returned (.bool true) ∧ Below w.heap.size w w' := by
  have hB : Below w.heap.size w w := Below.refl _ _
  obtain ⟨l, el⟩ : ∃ l, objs s = l := ⟨_, rfl⟩
  have Kl := hide (show AllK l by rw [← el]; exact objs_allK s)
  have ll : l.length ≤ 64 := by rw [← el]; exact objs_len s
  obtain ⟨f1, f2⟩ := once_objs hs
  rw [el] at f1 f2
  have f3 := once_more hs o (b := sumB l [o]) (fun x => by rw [sum_count, ← el, List.count_append])
  have f2 := hide (show ((onceV l : Nat) : Int) = (s : Int) by rw [f2])
  have f1 := hide f1
  rw [decide_eq_false (by omega : ¬ (1 ≤ o ∧ o ≤ 64)), Bool.false_and] at f3
  have Ko := hide (show AllK [o] from fun x hx => by rw [List.mem_singleton.1 hx]; exact ho)
  have Kr := sum_allK Kl.out Ko.out
  have lr : (sumB l [o]).length ≤ 65 := by rw [sum_len]; simp; exact ll
  obtain ⟨r, er⟩ : ∃ r, sumB l [o] = r := ⟨_, rfl⟩
  rw [er] at Kr lr
  rw [er] at f3
  have Kr := hide Kr
  have er := hide er
  have f3 := hide (show onceB r = false from f3)
  obtain ⟨V, hV⟩ : ∃ V : Int, ((onceV r : Nat) : Int) = V := ⟨_, rfl⟩
  have hV := hide hV
  have el := hide el
  have q1 : ((s : Int) == (s : Int)) = true := by simp
  go_enter Tryd.func3, Tryd.ntmps3
  go_wp2_with fail
  (with_reducible refine (examples_any _).mono ?_)
  rintro e w0_ ⟨rfl, hb0_⟩
  have hB := bcall hB hb0_
  go_wp2_with fail
  (with_reducible refine (List_c s _ hs (hE.below hB) l el.out _ rfl).mono ?_)
  rintro e w1_ ⟨A1_, c1_, rfl, q1_, Gl, hb1_⟩
  have hB := bcall hB hb1_
  have Gl := hide Gl
  go_wp2_with fail
  (with_reducible refine (Once_c _ l _ Gl.out Kl.out (s : Int) (f2.out) true (f1.out)).mono ?_)
  rintro e w2_ ⟨rfl, hb2_⟩
  have Gl := hide (Gl.out.below hb2_)
  have hB := bcall hB hb2_
  go_wp2_with fail
  (with_reducible refine (List_c s _ hs (hE.below hB) l el.out _ rfl).mono ?_)
  rintro e w3_ ⟨A3_, c3_, rfl, q3_, Gm, hb3_⟩
  have Gl := hide (Gl.out.below hb3_)
  have hB := bcall hB hb3_
  have Gm := hide Gm
  obtain ⟨wl4, el4, hbl4, Go⟩ := lit_ints (w := w3_) [o] 1 rfl (by decide)
  have HEL4 := hide (show w3_.alloc (.cells #[.int .i64 o] 3) = wl4 from el4)
  have hse4 := hide (show wl4.heap.size = w3_.heap.size + 1 by rw [← el4]; simp)
  have Go := hide Go
  clear el4
  have Gl := hide (Gl.out.below hbl4)
  have Gm := hide (Gm.out.below hbl4)
  have hB := bcall hB hbl4
  go_wp2_with fail
  rw [HEL4.out]
  (with_reducible refine (Sum_c _ _ l [o] _ Gm.out Go.out Kl.out Ko.out (Nat.le_trans (Nat.add_le_add_right ll 1) (by decide)) r (er.out) _ (rfl)).mono ?_)
  rintro e w5_ ⟨A5_, c5_, rfl, q5_, Gr, hb5_⟩
  have Gl := hide (Gl.out.below hb5_)
  have Gm := hide (Gm.out.below hb5_)
  have Go := hide (Go.out.below hb5_)
  have hB := bcall hB hb5_
  have Gr := hide Gr
  go_wp2_with fail
  (with_reducible refine (Once_c _ r _ Gr.out Kr.out V (hV.out) false (f3.out)).mono ?_)
  rintro e w6_ ⟨rfl, hb6_⟩
  have Gl := hide (Gl.out.below hb6_)
  have Gm := hide (Gm.out.below hb6_)
  have Go := hide (Go.out.below hb6_)
  have Gr := hide (Gr.out.below hb6_)
  have hB := bcall hB hb6_
  go_wp2
  go_ret
  exact ⟨rfl, hB⟩
set_option maxRecDepth 100000 in
set_option maxHeartbeats 8000000 in
theorem walk_high (s : Nat) (o : Int) (w : World) (hs : s < 18446744073709551616) (ho : Kw o) (hE : EnvT w) (hx : 64 < o) : Calls Tryd.prog 3 #[.int .u64 s, .int .i64 o] w fun e w' => e = .returned (.bool true) ∧ Below w.heap.size w w' := by
  have hB : Below w.heap.size w w := Below.refl _ _
  obtain ⟨l, el⟩ : ∃ l, objs s = l := ⟨_, rfl⟩
  have Kl := hide (show AllK l by rw [← el]; exact objs_allK s)
  have ll : l.length ≤ 64 := by rw [← el]; exact objs_len s
  obtain ⟨f1, f2⟩ := once_objs hs
  rw [el] at f1 f2
  have f3 := once_more hs o (b := sumB l [o]) (fun x => by rw [sum_count, ← el, List.count_append])
  have f2 := hide (show ((onceV l : Nat) : Int) = (s : Int) by rw [f2])
  have f1 := hide f1
  rw [decide_eq_false (by omega : ¬ (1 ≤ o ∧ o ≤ 64)), Bool.false_and] at f3
  have Ko := hide (show AllK [o] from fun x hx => by rw [List.mem_singleton.1 hx]; exact ho)
  have Kr := sum_allK Kl.out Ko.out
  have lr : (sumB l [o]).length ≤ 65 := by rw [sum_len]; simp; exact ll
  obtain ⟨r, er⟩ : ∃ r, sumB l [o] = r := ⟨_, rfl⟩
  rw [er] at Kr lr
  rw [er] at f3
  have Kr := hide Kr
  have er := hide er
  have f3 := hide (show onceB r = false from f3)
  obtain ⟨V, hV⟩ : ∃ V : Int, ((onceV r : Nat) : Int) = V := ⟨_, rfl⟩
  have hV := hide hV
  have el := hide el
  have q1 : ((s : Int) == (s : Int)) = true := by simp
  go_enter Tryd.func3, Tryd.ntmps3
  go_wp2_with fail
  (with_reducible refine (examples_any _).mono ?_)
  rintro e w0_ ⟨rfl, hb0_⟩
  have hB := bcall hB hb0_
  go_wp2_with fail
  (with_reducible refine (List_c s _ hs (hE.below hB) l el.out _ rfl).mono ?_)
  rintro e w1_ ⟨A1_, c1_, rfl, q1_, Gl, hb1_⟩
  have hB := bcall hB hb1_
  have Gl := hide Gl
  go_wp2_with fail
  (with_reducible refine (Once_c _ l _ Gl.out Kl.out (s : Int) (f2.out) true (f1.out)).mono ?_)
  rintro e w2_ ⟨rfl, hb2_⟩
  have Gl := hide (Gl.out.below hb2_)
  have hB := bcall hB hb2_
  go_wp2_with fail
  (with_reducible refine (List_c s _ hs (hE.below hB) l el.out _ rfl).mono ?_)
  rintro e w3_ ⟨A3_, c3_, rfl, q3_, Gm, hb3_⟩
  have Gl := hide (Gl.out.below hb3_)
  have hB := bcall hB hb3_
  have Gm := hide Gm
  obtain ⟨wl4, el4, hbl4, Go⟩ := lit_ints (w := w3_) [o] 1 rfl (by decide)
  have HEL4 := hide (show w3_.alloc (.cells #[.int .i64 o] 3) = wl4 from el4)
  have hse4 := hide (show wl4.heap.size = w3_.heap.size + 1 by rw [← el4]; simp)
  have Go := hide Go
  clear el4
  have Gl := hide (Gl.out.below hbl4)
  have Gm := hide (Gm.out.below hbl4)
  have hB := bcall hB hbl4
  go_wp2_with fail
  rw [HEL4.out]
  (with_reducible refine (Sum_c _ _ l [o] _ Gm.out Go.out Kl.out Ko.out (Nat.le_trans (Nat.add_le_add_right ll 1) (by decide)) r (er.out) _ (rfl)).mono ?_)
  rintro e w5_ ⟨A5_, c5_, rfl, q5_, Gr, hb5_⟩
  have Gl := hide (Gl.out.below hb5_)
  have Gm := hide (Gm.out.below hb5_)
  have Go := hide (Go.out.below hb5_)
  have hB := bcall hB hb5_
  have Gr := hide Gr
  go_wp2_with fail
  (with_reducible refine (Once_c _ r _ Gr.out Kr.out V (hV.out) false (f3.out)).mono ?_)
  rintro e w6_ ⟨rfl, hb6_⟩
  have Gl := hide (Gl.out.below hb6_)
  have Gm := hide (Gm.out.below hb6_)
  have Go := hide (Go.out.below hb6_)
  have Gr := hide (Gr.out.below hb6_)
  have hB := bcall hB hb6_
  go_wp2
  go_ret
  exact ⟨rfl, hB⟩
set_option maxRecDepth 100000 in
set_option maxHeartbeats 8000000 in
theorem walk_in (s : Nat) (o : Int) (w : World) (hs : s < 18446744073709551616) (ho : Kw o) (hE : EnvT w) (hx : 1 ≤ o ∧ o ≤ 64) (hh : hasF s o = true) : Calls Tryd.prog 3 #[.int .u64 s, .int .i64 o] w fun e w' => e = .returned (.bool true) ∧ Below w.heap.size w w' := by
  have hB : Below w.heap.size w w := Below.refl _ _
  obtain ⟨l, el⟩ : ∃ l, objs s = l := ⟨_, rfl⟩
  have Kl := hide (show AllK l by rw [← el]; exact objs_allK s)
  have ll : l.length ≤ 64 := by rw [← el]; exact objs_len s
  obtain ⟨f1, f2⟩ := once_objs hs
  rw [el] at f1 f2
  have f3 := once_more hs o (b := sumB l [o]) (fun x => by rw [sum_count, ← el, List.count_append])
  have f2 := hide (show ((onceV l : Nat) : Int) = (s : Int) by rw [f2])
  have f1 := hide f1
  rw [decide_eq_true hx, hh] at f3
  have Ko := hide (show AllK [o] from fun x hx => by rw [List.mem_singleton.1 hx]; exact ho)
  have Kr := sum_allK Kl.out Ko.out
  have lr : (sumB l [o]).length ≤ 65 := by rw [sum_len]; simp; exact ll
  obtain ⟨r, er⟩ : ∃ r, sumB l [o] = r := ⟨_, rfl⟩
  rw [er] at Kr lr
  rw [er] at f3
  have Kr := hide Kr
  have er := hide er
  have f3 := hide (show onceB r = false from f3)
  obtain ⟨V, hV⟩ : ∃ V : Int, ((onceV r : Nat) : Int) = V := ⟨_, rfl⟩
  have hV := hide hV
  have el := hide el
  have q1 : ((s : Int) == (s : Int)) = true := by simp
  obtain ⟨hx1, hx2⟩ := hx
  have hh := hide hh
  go_enter Tryd.func3, Tryd.ntmps3
  go_wp2_with fail
  (with_reducible refine (examples_any _).mono ?_)
  rintro e w0_ ⟨rfl, hb0_⟩
  have hB := bcall hB hb0_
  go_wp2_with fail
  (with_reducible refine (List_c s _ hs (hE.below hB) l el.out _ rfl).mono ?_)
  rintro e w1_ ⟨A1_, c1_, rfl, q1_, Gl, hb1_⟩
  have hB := bcall hB hb1_
  have Gl := hide Gl
  go_wp2_with fail
  (with_reducible refine (Once_c _ l _ Gl.out Kl.out (s : Int) (f2.out) true (f1.out)).mono ?_)
  rintro e w2_ ⟨rfl, hb2_⟩
  have Gl := hide (Gl.out.below hb2_)
  have hB := bcall hB hb2_
  go_wp2_with fail
  (with_reducible refine (List_c s _ hs (hE.below hB) l el.out _ rfl).mono ?_)
  rintro e w3_ ⟨A3_, c3_, rfl, q3_, Gm, hb3_⟩
  have Gl := hide (Gl.out.below hb3_)
  have hB := bcall hB hb3_
  have Gm := hide Gm
  obtain ⟨wl4, el4, hbl4, Go⟩ := lit_ints (w := w3_) [o] 1 rfl (by decide)
  have HEL4 := hide (show w3_.alloc (.cells #[.int .i64 o] 3) = wl4 from el4)
  have hse4 := hide (show wl4.heap.size = w3_.heap.size + 1 by rw [← el4]; simp)
  have Go := hide Go
  clear el4
  have Gl := hide (Gl.out.below hbl4)
  have Gm := hide (Gm.out.below hbl4)
  have hB := bcall hB hbl4
  go_wp2_with fail
  rw [HEL4.out]
  (with_reducible refine (Sum_c _ _ l [o] _ Gm.out Go.out Kl.out Ko.out (Nat.le_trans (Nat.add_le_add_right ll 1) (by decide)) r (er.out) _ (rfl)).mono ?_)
  rintro e w5_ ⟨A5_, c5_, rfl, q5_, Gr, hb5_⟩
  have Gl := hide (Gl.out.below hb5_)
  have Gm := hide (Gm.out.below hb5_)
  have Go := hide (Go.out.below hb5_)
  have hB := bcall hB hb5_
  have Gr := hide Gr
  go_wp2_with fail
  (with_reducible refine (Once_c _ r _ Gr.out Kr.out V (hV.out) false (f3.out)).mono ?_)
  rintro e w6_ ⟨rfl, hb6_⟩
  have Gl := hide (Gl.out.below hb6_)
  have Gm := hide (Gm.out.below hb6_)
  have Go := hide (Go.out.below hb6_)
  have Gr := hide (Gr.out.below hb6_)
  have hB := bcall hB hb6_
  go_wp2_with fail
  (with_reducible refine (Has_c s o _ hs ho true hh.out).mono ?_)
  rintro e w7_ ⟨rfl, hb7_⟩
  have Gl := hide (Gl.out.below hb7_)
  have Gm := hide (Gm.out.below hb7_)
  have Go := hide (Go.out.below hb7_)
  have Gr := hide (Gr.out.below hb7_)
  have hB := bcall hB hb7_
  go_wp2
  go_ret
  exact ⟨rfl, hB⟩
set_option maxRecDepth 100000 in
set_option maxHeartbeats 8000000 in
theorem walk_out (s : Nat) (o : Int) (w : World) (hs : s < 18446744073709551616) (ho : Kw o) (hE : EnvT w) (hx : 1 ≤ o ∧ o ≤ 64) (hh : hasF s o = false) : Calls Tryd.prog 3 #[.int .u64 s, .int .i64 o] w fun e w' => e = .returned (.bool true) ∧ Below w.heap.size w w' := by
  have hB : Below w.heap.size w w := Below.refl _ _
  obtain ⟨l, el⟩ : ∃ l, objs s = l := ⟨_, rfl⟩
  have Kl := hide (show AllK l by rw [← el]; exact objs_allK s)
  have ll : l.length ≤ 64 := by rw [← el]; exact objs_len s
  obtain ⟨f1, f2⟩ := once_objs hs
  rw [el] at f1 f2
  have f3 := once_more hs o (b := sumB l [o]) (fun x => by rw [sum_count, ← el, List.count_append])
  have f2 := hide (show ((onceV l : Nat) : Int) = (s : Int) by rw [f2])
  have f1 := hide f1
  rw [decide_eq_true hx, hh] at f3
  have Ko := hide (show AllK [o] from fun x hx => by rw [List.mem_singleton.1 hx]; exact ho)
  have Kr := sum_allK Kl.out Ko.out
  have lr : (sumB l [o]).length ≤ 65 := by rw [sum_len]; simp; exact ll
  obtain ⟨r, er⟩ : ∃ r, sumB l [o] = r := ⟨_, rfl⟩
  rw [er] at Kr lr
  rw [er] at f3
  have Kr := hide Kr
  have er := hide er
  have f3 := hide (show onceB r = true from f3)
  obtain ⟨V, hV⟩ : ∃ V : Int, ((onceV r : Nat) : Int) = V := ⟨_, rfl⟩
  have hV := hide hV
  have el := hide el
  have q1 : ((s : Int) == (s : Int)) = true := by simp
  obtain ⟨hx1, hx2⟩ := hx
  have hh := hide hh
  go_enter Tryd.func3, Tryd.ntmps3
  go_wp2_with fail
  (with_reducible refine (examples_any _).mono ?_)
  rintro e w0_ ⟨rfl, hb0_⟩
  have hB := bcall hB hb0_
  go_wp2_with fail
  (with_reducible refine (List_c s _ hs (hE.below hB) l el.out _ rfl).mono ?_)
  rintro e w1_ ⟨A1_, c1_, rfl, q1_, Gl, hb1_⟩
  have hB := bcall hB hb1_
  have Gl := hide Gl
  go_wp2_with fail
  (with_reducible refine (Once_c _ l _ Gl.out Kl.out (s : Int) (f2.out) true (f1.out)).mono ?_)
  rintro e w2_ ⟨rfl, hb2_⟩
  have Gl := hide (Gl.out.below hb2_)
  have hB := bcall hB hb2_
  go_wp2_with fail
  (with_reducible refine (List_c s _ hs (hE.below hB) l el.out _ rfl).mono ?_)
  rintro e w3_ ⟨A3_, c3_, rfl, q3_, Gm, hb3_⟩
  have Gl := hide (Gl.out.below hb3_)
  have hB := bcall hB hb3_
  have Gm := hide Gm
  obtain ⟨wl4, el4, hbl4, Go⟩ := lit_ints (w := w3_) [o] 1 rfl (by decide)
  have HEL4 := hide (show w3_.alloc (.cells #[.int .i64 o] 3) = wl4 from el4)
  have hse4 := hide (show wl4.heap.size = w3_.heap.size + 1 by rw [← el4]; simp)
  have Go := hide Go
  clear el4
  have Gl := hide (Gl.out.below hbl4)
  have Gm := hide (Gm.out.below hbl4)
  have hB := bcall hB hbl4
  go_wp2_with fail
  rw [HEL4.out]
  (with_reducible refine (Sum_c _ _ l [o] _ Gm.out Go.out Kl.out Ko.out (Nat.le_trans (Nat.add_le_add_right ll 1) (by decide)) r (er.out) _ (rfl)).mono ?_)
  rintro e w5_ ⟨A5_, c5_, rfl, q5_, Gr, hb5_⟩
  have Gl := hide (Gl.out.below hb5_)
  have Gm := hide (Gm.out.below hb5_)
  have Go := hide (Go.out.below hb5_)
  have hB := bcall hB hb5_
  have Gr := hide Gr
  go_wp2_with fail
  (with_reducible refine (Once_c _ r _ Gr.out Kr.out V (hV.out) true (f3.out)).mono ?_)
  rintro e w6_ ⟨rfl, hb6_⟩
  have Gl := hide (Gl.out.below hb6_)
  have Gm := hide (Gm.out.below hb6_)
  have Go := hide (Go.out.below hb6_)
  have Gr := hide (Gr.out.below hb6_)
  have hB := bcall hB hb6_
  go_wp2_with fail
  (with_reducible refine (Has_c s o _ hs ho false hh.out).mono ?_)
  rintro e w7_ ⟨rfl, hb7_⟩
  have Gl := hide (Gl.out.below hb7_)
  have Gm := hide (Gm.out.below hb7_)
  have Go := hide (Go.out.below hb7_)
  have Gr := hide (Gr.out.below hb7_)
  have hB := bcall hB hb7_
  go_wp2
  go_ret
  exact ⟨rfl, hB⟩
theorem walk (s : Nat) (o : Int) (w : World) (hs : s < 18446744073709551616) (ho : Kw o) (hE : EnvT w) : Calls Tryd.prog 3 #[.int .u64 s, .int .i64 o] w fun e w' => e = .returned (.bool true) ∧ Below w.heap.size w w' := by
  by_cases h1 : o < 1
  · exact walk_low s o w hs ho hE h1
  · by_cases h2 : 64 < o
    · exact walk_high s o w hs ho hE h2
    · cases hh : hasF s o
      · exact walk_out s o w hs ho hE (by omega) hh
      · exact walk_in s o w hs ho hE (by omega) hh

set_option maxRecDepth 100000 in
theorem lifted (os : Os) (started : os.Started) (H : Type) (enc : TypeId × Value → H) :
    ReturnsInHanded {} Tryd.checked os 3 .any (fun w args => (Rows.bagOnceSpec.pre enc Tryd.prog Tryd.f3 Rows.bagOnceRow.domain false w args ∧ laidMetH Tryd.prog Rows.bagOnceRow.laid w) ∧ sizedMet enc Tryd.prog Tryd.f3 (OpenSpec.ofChange Rows.bagOnceSpec) false w args) (Rows.bagOnceSpec.post enc Tryd.prog Tryd.f3 false true false false) := by
  refine handed_and_shaped (C := Tryd.checked) (X := fun w _ => laidMetH Tryd.prog Rows.bagOnceRow.laid w) (fun _ _ _ hh h => h.of_heap hh) ownL started (by kernel_rfl) Tryd.func3
    (ChangeSpec.witness_shaped (enc := enc) (C := Tryd.checked) (os := os) (X := fun w _ => laidMetH Tryd.prog Rows.bagOnceRow.laid w) false (World.laidAll Tryd.prog os Rows.bagOnceRow.laid) #[.int .u64 0, .int .i64 0] 8 (World.laidAll_os _ _ _)
      (World.shaped_of_ZipB (by kernel_rfl) (by kernel_rfl)) (by kernel_rfl) (by kernel_rfl) (by kernel_rfl)
      (by rw [MakeChecks.laidMetH_plain _ _ _ (by kernel_rfl)]; exact laidMet_laidAll _ (by kernel_rfl) (by kernel_rfl))) ?_
  intro W base args ds gs before hval0 hW hsz0 hL hsh
  have hval : ∀ (j : Nat) t v, Tryd.f3.params[j]? = some t → args[j]? = some v → Value.okWide Tryd.prog W .any base t v := hval0
  have hW' := hW
  obtain ⟨p, q, hA0, hV, rfl, hfz, hnd⟩ := hW
  have hA : DataW.TrodAll enc Tryd.prog W 0 (fun _ => true) true Tryd.f3.params.toList args.toList ds p := hA0
  rw [Tryd.params3] at hA hval
  obtain ⟨v0, vs0, d0, ds0, p0, q0, hargs, rfl, rfl, h0, r0⟩ := trodAll_cons hA
  obtain ⟨v1, vs1, d1, ds1, p1, q1, rfl, rfl, rfl, h1, r1⟩ := trodAll_cons r0
  obtain ⟨rfl, rfl, rfl⟩ := trodAll_nil r1
  obtain rfl : args = #[v0, v1] := by cases args; simp_all
  obtain ⟨rfl, rfl⟩ := trodVars_none hV
  obtain ⟨a0, rfl, rfl, rfl, w0⟩ := open_int Tryd.underlying23 (hval 0 23 v0 rfl rfl) h0
  have hx0 : 0 ≤ a0 ∧ a0 ≤ 18446744073709551615 := by simpa [Lit.wf, IntKind.min, IntKind.max, IntKind.signed, IntKind.bits] using w0
  obtain ⟨n0, rfl⟩ : ∃ n : Nat, a0 = n := ⟨a0.toNat, by omega⟩
  obtain ⟨a1, rfl, rfl, rfl, w1⟩ := open_int Tryd.underlying3 (hval 1 3 v1 rfl rfl) h1
  have hx1 : -9223372036854775808 ≤ a1 ∧ a1 ≤ 9223372036854775807 := by simpa [Lit.wf, IntKind.min, IntKind.max, IntKind.signed, IntKind.bits] using w1
  have hE := envT_of_laid hL
  refine (walk n0 a1 W (by omega) hx1 hE).mono fun e W' ⟨he, hg⟩ => ?_
  subst he
  exact ⟨_, rfl, law_post laidOutL (by kernel_rfl) rfl Tryd.underlying4 rfl ⟨rfl, rfl, rfl⟩ hW' hg⟩
theorem row_holds : Rows.BagOnceSaid :=
  OpenClaim.holds_of_wide 3 Tryd.f3 rfl rfl rfl rfl rfl rfl rfl ⟨rfl, rfl, rfl, rfl, rfl⟩ rfl rfl rfl rfl rfl (by kernel_rfl) Tryd.func3 (by kernel_rfl)
    (of_decide_eq_true (by kernel_rfl)) (by unfold Func.isWrapper; first | (rw [if_pos (by decide +kernel)]; kernel_rfl) | (rw [if_neg (by decide +kernel)]; exact ⟨rfl, rfl⟩))
    (fun os started H enc _ => lifted os started H enc)

/-- THE STATEMENT -/
theorem proved : Rows.BagOnceCardSaid :=
  Claim7.holds_tied_plain_at .later [] Rows.bagOnceCard.laidKinds true Rows.bagOnceCard.stood.harness Rows.bagOnceCard.stood.looks
    row_holds (fun _ h => by cases h) (by kernel_rfl) (fun _ h => by cases h) bagOnce_row_tie rfl ⟨rfl, rfl⟩ (by kernel_rfl) rfl
    (fun f fn hf hfn => by
      obtain rfl : f = 3 := Option.some.inj ((show Tryd.prog.funcNamed Rows.bagOnceRow.func = some 3 by kernel_rfl).symm.trans hf) |>.symm
      obtain rfl : fn = Tryd.f3 := (Option.some.inj (Tryd.func3.symm.trans hfn)).symm
      exact ⟨by kernel_rfl, fun j t ht => by
        rw [Tryd.params3] at ht
        have hm : t ∈ [23, 3] := by simpa using Array.mem_of_getElem? ht
        have hall : ([23, 3].all fun u => !Tryd.prog.wantsStandIn u) = true := by kernel_rfl
        exact (show Tryd.prog.wantsStandIn t = false by simpa using List.all_eq_true.1 hall t hm)⟩)
    (by kernel_rfl)
end Go.Proofs.YtggfckednjojgaaDoor.lawBagOnce
