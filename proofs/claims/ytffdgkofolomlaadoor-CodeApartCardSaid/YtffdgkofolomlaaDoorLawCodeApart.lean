/- CodeApart: two right ops are shown alike just if they are the same; what is not right is shown as a question. No condition. -/
import Derived.Test.YtffdgkofolomlaaDoorCodeSomeOpen
namespace Go.Proofs.YtffdgkofolomlaaDoor.lawCodeApart
open Go.RowKit Go.WideShapes Go.ChangeShapes Go.ChangeAt Go.Deep Go.Proofs Go.Proofs.YtffdgkofolomlaaDoor

theorem some_two (a b : Int) (w : World) (ha : 0 ≤ a ∧ a ≤ 255) (hb : 0 ≤ b ∧ b ≤ 255) (k r x z k' r' x' z' : Int) (h1 : cSome a = ⟨k, r, x, z⟩) (h2 : cSome b = ⟨k', r', x', z'⟩) (B : Nat) (h : Bytes w (.slice (some ⟨B, 0, none⟩) 2 2) [a, b]) :
    Calls Tryd.prog 24 #[.slice (some ⟨B, 0, none⟩) 2 2] w fun e w' => ∃ g off c, e = .returned (.slice (some ⟨g, off, none⟩) 2 c) ∧ (2 ≤ c ∧ c ≤ 9223372036854775807) ∧ Oqs w' (.slice (some ⟨g, off, none⟩) 2 c) [⟨k, r, x, z⟩, ⟨k', r', x', z'⟩] ∧ Below w.heap.size w w' := by
  refine (csome_any _ [a, b] w h (by simp only [List.mem_cons, List.not_mem_nil, or_false]; rintro y (rfl | rfl); exact ha; exact hb) (by simp)).mono ?_
  rintro e w' ⟨v, rfl, ho, hB⟩
  rw [show [a, b].map cSome = [⟨k, r, x, z⟩, ⟨k', r', x', z'⟩] by simp [h1, h2]] at ho
  have hS : Oqs w' v _ := Sl.of_own oq_len ho
  obtain ⟨A, c, rfl, h3, h4⟩ := own_form ho
  obtain ⟨g, off, rfl⟩ := oq_addr hS rfl (by simp)
  exact ⟨g, off, c, rfl, ⟨h3, by unfold maxLen at h4; omega⟩, hS, hB⟩
set_option maxRecDepth 100000 in
set_option maxHeartbeats 8000000 in
theorem walk (a b : Int) (ha : 0 ≤ a ∧ a ≤ 255) (hb : 0 ≤ b ∧ b ≤ 255) (ok oR oA oS : Int) (w : World) : Calls Tryd.prog 6 #[.int .u8 a, .int .u8 b, qv ok oR oA oS] w fun e w' => e = .returned (.bool true) ∧ Below w.heap.size w w' := by
  obtain ⟨⟨k, r, x, z⟩, e1⟩ : ∃ q, cSome a = q := ⟨_, rfl⟩
  obtain ⟨⟨k', r', x', z'⟩, e2⟩ : ∃ q, cSome b = q := ⟨_, rfl⟩
  obtain ⟨T0, hT0⟩ : ∃ T, (⟨(cText ⟨k, r, x, z⟩).toArray⟩ : ByteArray) = T := ⟨_, rfl⟩
  obtain ⟨T1, hT1⟩ : ∃ T, (⟨(cText ⟨k', r', x', z'⟩).toArray⟩ : ByteArray) = T := ⟨_, rfl⟩
  obtain ⟨T2, hT2⟩ : ∃ T, (⟨(cText ⟨ok, oR, oA, oS⟩).toArray⟩ : ByteArray) = T := ⟨_, rfl⟩
  obtain ⟨D, hD⟩ : ∃ D, decide ((⟨k, r, x, z⟩ : Oq) = ⟨k', r', x', z'⟩) = D := ⟨_, rfl⟩
  obtain ⟨R, hR⟩ : ∃ R, cRight ⟨ok, oR, oA, oS⟩ 4 4 = R := ⟨_, rfl⟩
  have q1 : (T0.toList == T1.toList) = D := by
    rw [← hD, ← hT0, ← hT1, ba_list, ba_list]
    have h1 := some_rightI ha
    have h2 := some_rightI hb
    rw [e1] at h1; rw [e2] at h2
    have h3 := text_inj h1 h2
    rw [Bool.eq_iff_iff, beq_iff_eq, decide_eq_true_eq]
    simpa using h3
  have q2 : (T2.toList == [63]) = !R := by
    rw [← hT2, ba_list]
    have h3 := text_no ⟨ok, oR, oA, oS⟩
    rw [hR] at h3
    rw [Bool.eq_iff_iff, beq_iff_eq, Bool.not_eq_true']
    simpa using h3
  have hq := eql_cop k r x z k' r' x' z'
  rw [hD] at hq
  have HD1 := hide hT0
  have HD2 := hide hT1
  have HD3 := hide hT2
  have HR := hide hR
  have HE1 := hide e1
  have HE2 := hide e2
  clear hT0 hT1 hT2 hD hR e1 e2
  have hB : Below w.heap.size w w := Below.refl _ _
  obtain ⟨w0, e0, hb0, hs0, X⟩ := b4_new w (.int .i64 ok) (.int .i64 oR) (.int .i64 oA) (.int .i64 oS) 24
  have HE0 := hide e0
  have X := hide X
  clear e0 hs0
  replace hB := bcall hB hb0
  go_enter Tryd.func6, Tryd.ntmps6
  go_upto_region 1 with (fail)
  rw [HE0.out]
  go_wp2_with fail
  (with_reducible refine (examples_any _).mono ?_)
  rintro e w1 ⟨rfl, hb1⟩
  replace X := hide (X.out.below hb1)
  replace hB := bcall hB hb1
  have hs1 := hb1.size
  clear hb1
  obtain ⟨w2, e2, hb2, hL2⟩ : ∃ w2, w1.alloc (.cells #[.int .u8 a, .int .u8 b] 5) = w2 ∧ Below w1.heap.size w1 w2 ∧ Bytes w2 (.slice (some ⟨w1.heap.size, 0, none⟩) 2 2) [a, b] := ⟨_, rfl, cbal _ _, Sl.of_own (fun _ => rfl) (own_new w1 0 [.int .u8 a, .int .u8 b] 5 1 2 (Nat.zero_le _) rfl (by decide))⟩
  have HE := hide e2
  have HBY := hide hL2
  clear e2 hL2
  replace X := hide (X.out.below hb2)
  replace hB := bcall hB hb2
  go_wp2_with fail
  rw [HE.out]
  (with_reducible refine (some_two a b _ ha hb k r x z k' r' x' z' HE1.out HE2.out _ HBY.out).mono ?_)
  rintro e w3 ⟨g, off, c, rfl, ⟨p3, q3⟩, HL, hb3⟩
  have HL := hide HL
  replace X := hide (X.out.below hb3)
  replace hB := bcall hB hb3
  clear hb3 HBY
  go_wp2
  replace X := hide (b4_all_drew X.out)
  replace HL := hide (oqs_drew HL.out)
  replace hB := below_drew hB
  refine wp_region_held_drew (S := fun w' => w'.cell? ⟨w.heap.size, 0, none⟩ = some (.int .i64 ok) ∧ w'.cell? ⟨w.heap.size, 1, none⟩ = some (.int .i64 oR) ∧ w'.cell? ⟨w.heap.size, 2, none⟩ = some (.int .i64 oA) ∧ w'.cell? ⟨w.heap.size, 3, none⟩ = some (.int .i64 oS) ∧ w'.cell? ⟨g, off, none⟩ = some (.int .i64 k) ∧ w'.cell? ⟨g, off + 1, none⟩ = some (.int .i64 r) ∧ w'.cell? ⟨g, off + 2, none⟩ = some (.int .i64 x) ∧ w'.cell? ⟨g, off + 3, none⟩ = some (.int .i64 z) ∧ w'.cell? ⟨g, off + 4, none⟩ = some (.int .i64 k') ∧ w'.cell? ⟨g, off + 5, none⟩ = some (.int .i64 r') ∧ w'.cell? ⟨g, off + 6, none⟩ = some (.int .i64 x') ∧ w'.cell? ⟨g, off + 7, none⟩ = some (.int .i64 z')) (by kernel_rfl) ?_ (fun hHeld => ?_)
  · exact (by obtain ⟨a0, a1, a2, a3⟩ := X.out.all; obtain ⟨b0, b1, b2, b3, b4, b5, b6, b7⟩ := oq_two HL.out; exact ⟨a0, a1, a2, a3, b0, b1, b2, b3, b4, b5, b6, b7⟩)
  refine wpAnyH_take (i := 0) (oi := { dst := some 16, op := Op.move (Operand.tmp 7), type := 4, pos := "keeps.go:66", after := #[], guard := none }) (v := ?_) rfl (by kernel_rfl) (by kernel_rfl) (by kernel_rfl) (fun _ _ _ h => h) (Or.inl ⟨by rfl, ?_⟩) (by assumption) ?_
  rotate_left
  · intro w_ hSw; (try dsimp only at hSw); go_simp; (try with_reducible rfl)
  (try simp only [Act.put, List.setIfInBounds_toArray, List.set_cons_zero, List.set_cons_succ])
  refine wpAnyH_take (i := 1) (oi := { dst := some 17, op := Op.move (Operand.tmp 16), type := 4, pos := "keeps.go:66", after := #[{ on := 0, ground := Ground.data }], guard := none }) (v := ?_) rfl (by kernel_rfl) (by kernel_rfl) (by kernel_rfl) (fun _ _ _ h => h) (Or.inl ⟨by rfl, ?_⟩) (by assumption) ?_
  rotate_left
  · intro w_ hSw; (try dsimp only at hSw); go_simp; (try with_reducible rfl)
  (try simp only [Act.put, List.setIfInBounds_toArray, List.set_cons_zero, List.set_cons_succ])
  refine wpAnyH_take (i := 2) (oi := { dst := some 18, op := Op.move (Operand.tmp 8), type := 22, pos := "keeps.go:66", after := #[{ on := 1, ground := Ground.guard }], guard := some (1, true) }) (v := ?_) rfl (by kernel_rfl) (by kernel_rfl) (by kernel_rfl) (fun _ _ _ h => h) (Or.inl ⟨by rfl, ?_⟩) (by assumption) ?_
  rotate_left
  · intro w_ hSw; (try dsimp only at hSw); go_simp; (try with_reducible rfl)
  (try simp only [Act.put, List.setIfInBounds_toArray, List.set_cons_zero, List.set_cons_succ])
  refine wpAnyH_take (i := 3) (oi := { dst := some 19, op := Op.indexAddr 22 (Operand.tmp 18) (Operand.const (Value.int IntKind.i64 0)), type := 0, pos := "keeps.go:66", after := #[{ on := 2, ground := Ground.data }, { on := 1, ground := Ground.guard }], guard := some (1, true) }) (v := ?_) rfl (by kernel_rfl) (by kernel_rfl) (by kernel_rfl) (fun _ _ _ h => h) (Or.inl ⟨by rfl, ?_⟩) (by assumption) ?_
  rotate_left
  · intro w_ hSw; (try dsimp only at hSw); go_simp; (try with_reducible rfl)
  (try simp only [Act.put, List.setIfInBounds_toArray, List.set_cons_zero, List.set_cons_succ])
  refine wpAnyH_take (i := 4) (oi := { dst := some 20, op := Op.load 24 (Operand.tmp 19), type := 24, pos := "keeps.go:66", after := #[{ on := 3, ground := Ground.data }, { on := 1, ground := Ground.guard }], guard := some (1, true) }) (v := ?_) rfl (by kernel_rfl) (by kernel_rfl) (by kernel_rfl) (fun _ _ _ h => h) (Or.inl ⟨by rfl, ?_⟩) (by assumption) ?_
  rotate_left
  · intro w_ hSw; (try dsimp only at hSw); go_simp; (try with_reducible rfl)
  (try simp only [Act.put, List.setIfInBounds_toArray, List.set_cons_zero, List.set_cons_succ])
  refine wpAnyH_take (i := 6) (oi := { dst := some 22, op := Op.move (Operand.tmp 8), type := 22, pos := "keeps.go:66", after := #[{ on := 1, ground := Ground.guard }], guard := some (1, true) }) (v := ?_) rfl (by kernel_rfl) (by kernel_rfl) (by kernel_rfl) (fun _ _ _ h => h) (Or.inl ⟨by rfl, ?_⟩) (by assumption) ?_
  rotate_left
  · intro w_ hSw; (try dsimp only at hSw); go_simp; (try with_reducible rfl)
  (try simp only [Act.put, List.setIfInBounds_toArray, List.set_cons_zero, List.set_cons_succ])
  refine wpAnyH_take (i := 7) (oi := { dst := some 23, op := Op.indexAddr 22 (Operand.tmp 22) (Operand.const (Value.int IntKind.i64 1)), type := 0, pos := "keeps.go:66", after := #[{ on := 6, ground := Ground.data }, { on := 1, ground := Ground.guard }], guard := some (1, true) }) (v := ?_) rfl (by kernel_rfl) (by kernel_rfl) (by kernel_rfl) (fun _ _ _ h => h) (Or.inl ⟨by rfl, ?_⟩) (by assumption) ?_
  rotate_left
  · intro w_ hSw; (try dsimp only at hSw); go_simp; (try with_reducible rfl)
  (try simp only [Act.put, List.setIfInBounds_toArray, List.set_cons_zero, List.set_cons_succ])
  refine wpAnyH_take (i := 8) (oi := { dst := some 24, op := Op.load 24 (Operand.tmp 23), type := 24, pos := "keeps.go:66", after := #[{ on := 7, ground := Ground.data }, { on := 1, ground := Ground.guard }], guard := some (1, true) }) (v := ?_) rfl (by kernel_rfl) (by kernel_rfl) (by kernel_rfl) (fun _ _ _ h => h) (Or.inl ⟨by rfl, ?_⟩) (by assumption) ?_
  rotate_left
  · intro w_ hSw; (try dsimp only at hSw); go_simp; (try with_reducible rfl)
  (try simp only [Act.put, List.setIfInBounds_toArray, List.set_cons_zero, List.set_cons_succ])
  refine wpAnyH_take (i := 11) (oi := { dst := some 27, op := Op.move (Operand.tmp 8), type := 22, pos := "keeps.go:66", after := #[{ on := 1, ground := Ground.guard }], guard := some (1, true) }) (v := ?_) rfl (by kernel_rfl) (by kernel_rfl) (by kernel_rfl) (fun _ _ _ h => h) (Or.inl ⟨by rfl, ?_⟩) (by assumption) ?_
  rotate_left
  · intro w_ hSw; (try dsimp only at hSw); go_simp; (try with_reducible rfl)
  (try simp only [Act.put, List.setIfInBounds_toArray, List.set_cons_zero, List.set_cons_succ])
  refine wpAnyH_take (i := 12) (oi := { dst := some 28, op := Op.indexAddr 22 (Operand.tmp 27) (Operand.const (Value.int IntKind.i64 0)), type := 0, pos := "keeps.go:66", after := #[{ on := 11, ground := Ground.data }, { on := 1, ground := Ground.guard }], guard := some (1, true) }) (v := ?_) rfl (by kernel_rfl) (by kernel_rfl) (by kernel_rfl) (fun _ _ _ h => h) (Or.inl ⟨by rfl, ?_⟩) (by assumption) ?_
  rotate_left
  · intro w_ hSw; (try dsimp only at hSw); go_simp; (try with_reducible rfl)
  (try simp only [Act.put, List.setIfInBounds_toArray, List.set_cons_zero, List.set_cons_succ])
  refine wpAnyH_take (i := 13) (oi := { dst := some 29, op := Op.load 24 (Operand.tmp 28), type := 24, pos := "keeps.go:66", after := #[{ on := 12, ground := Ground.data }, { on := 1, ground := Ground.guard }], guard := some (1, true) }) (v := ?_) rfl (by kernel_rfl) (by kernel_rfl) (by kernel_rfl) (fun _ _ _ h => h) (Or.inl ⟨by rfl, ?_⟩) (by assumption) ?_
  rotate_left
  · intro w_ hSw; (try dsimp only at hSw); go_simp; (try with_reducible rfl)
  (try simp only [Act.put, List.setIfInBounds_toArray, List.set_cons_zero, List.set_cons_succ])
  refine wpAnyH_take (i := 14) (oi := { dst := some 30, op := Op.move (Operand.tmp 8), type := 22, pos := "keeps.go:66", after := #[{ on := 1, ground := Ground.guard }], guard := some (1, true) }) (v := ?_) rfl (by kernel_rfl) (by kernel_rfl) (by kernel_rfl) (fun _ _ _ h => h) (Or.inl ⟨by rfl, ?_⟩) (by assumption) ?_
  rotate_left
  · intro w_ hSw; (try dsimp only at hSw); go_simp; (try with_reducible rfl)
  (try simp only [Act.put, List.setIfInBounds_toArray, List.set_cons_zero, List.set_cons_succ])
  refine wpAnyH_take (i := 15) (oi := { dst := some 31, op := Op.indexAddr 22 (Operand.tmp 30) (Operand.const (Value.int IntKind.i64 1)), type := 0, pos := "keeps.go:66", after := #[{ on := 14, ground := Ground.data }, { on := 1, ground := Ground.guard }], guard := some (1, true) }) (v := ?_) rfl (by kernel_rfl) (by kernel_rfl) (by kernel_rfl) (fun _ _ _ h => h) (Or.inl ⟨by rfl, ?_⟩) (by assumption) ?_
  rotate_left
  · intro w_ hSw; (try dsimp only at hSw); go_simp; (try with_reducible rfl)
  (try simp only [Act.put, List.setIfInBounds_toArray, List.set_cons_zero, List.set_cons_succ])
  refine wpAnyH_take (i := 16) (oi := { dst := some 32, op := Op.load 24 (Operand.tmp 31), type := 24, pos := "keeps.go:66", after := #[{ on := 15, ground := Ground.data }, { on := 1, ground := Ground.guard }], guard := some (1, true) }) (v := ?_) rfl (by kernel_rfl) (by kernel_rfl) (by kernel_rfl) (fun _ _ _ h => h) (Or.inl ⟨by rfl, ?_⟩) (by assumption) ?_
  rotate_left
  · intro w_ hSw; (try dsimp only at hSw); go_simp; (try with_reducible rfl)
  (try simp only [Act.put, List.setIfInBounds_toArray, List.set_cons_zero, List.set_cons_succ])
  refine wpAnyH_take (i := 17) (oi := { dst := some 33, op := Op.binOp BinOp.eql 24 (Operand.tmp 29) (Operand.tmp 32) 24, type := 4, pos := "keeps.go:66", after := #[{ on := 13, ground := Ground.data }, { on := 16, ground := Ground.data }, { on := 1, ground := Ground.guard }], guard := some (1, true) }) (v := ?_) rfl (by kernel_rfl) (by kernel_rfl) (by kernel_rfl) (fun _ _ _ h => h) (Or.inl ⟨by rfl, ?_⟩) (by assumption) ?_
  rotate_left
  · intro w_ hSw; (try dsimp only at hSw); go_simp; (try with_reducible rfl)
  (try simp only [Act.put, List.setIfInBounds_toArray, List.set_cons_zero, List.set_cons_succ])
  refine wpAnyH_ready (rs := [5]) (by kernel_rfl) (by simp) ?_
  refine AllReadyH.cons rfl (fun K hK => ?_) AllReadyH.nil
  go_simp
  go_at_call 20
  (with_reducible refine (Text_s k r x z T0 HD1.out _).mono ?_)
  rintro e w4 ⟨rfl, hb4⟩
  replace X := hide (X.out.below hb4)
  replace HL := hide (HL.out.below hb4)
  replace hB := bcall hB hb4
  clear hb4
  (try go_simp)
  refine hK.out _ _ (by obtain ⟨a0, a1, a2, a3⟩ := X.out.all; obtain ⟨b0, b1, b2, b3, b4, b5, b6, b7⟩ := oq_two HL.out; exact ⟨a0, a1, a2, a3, b0, b1, b2, b3, b4, b5, b6, b7⟩) (fun hHeld => ?_)
  (try simp only [Act.put, List.setIfInBounds_toArray, List.set_cons_zero, List.set_cons_succ])
  refine wpAnyH_ready (rs := [9]) (by kernel_rfl) (by simp) ?_
  refine AllReadyH.cons rfl (fun K hK => ?_) AllReadyH.nil
  go_simp
  go_at_call 20
  (with_reducible refine (Text_s k' r' x' z' T1 HD2.out _).mono ?_)
  rintro e w5 ⟨rfl, hb5⟩
  replace X := hide (X.out.below hb5)
  replace HL := hide (HL.out.below hb5)
  replace hB := bcall hB hb5
  clear hb5
  (try go_simp)
  refine hK.out _ _ (by obtain ⟨a0, a1, a2, a3⟩ := X.out.all; obtain ⟨b0, b1, b2, b3, b4, b5, b6, b7⟩ := oq_two HL.out; exact ⟨a0, a1, a2, a3, b0, b1, b2, b3, b4, b5, b6, b7⟩) (fun hHeld => ?_)
  (try simp only [Act.put, List.setIfInBounds_toArray, List.set_cons_zero, List.set_cons_succ])
  refine wpAnyH_take (i := 10) (oi := { dst := some 26, op := Op.binOp BinOp.eql 9 (Operand.tmp 21) (Operand.tmp 25) 9, type := 4, pos := "keeps.go:66", after := #[{ on := 5, ground := Ground.data }, { on := 9, ground := Ground.data }, { on := 1, ground := Ground.guard }], guard := some (1, true) }) (v := ?_) rfl (by kernel_rfl) (by kernel_rfl) (by kernel_rfl) (fun _ _ _ h => h) (Or.inl ⟨by rfl, ?_⟩) (by assumption) ?_
  rotate_left
  · intro w_ hSw; (try dsimp only at hSw); go_simp; (try with_reducible rfl)
  (try simp only [Act.put, List.setIfInBounds_toArray, List.set_cons_zero, List.set_cons_succ])
  refine wpAnyH_take (i := 18) (oi := { dst := some 34, op := Op.binOp BinOp.eql 4 (Operand.tmp 26) (Operand.tmp 33) 4, type := 4, pos := "keeps.go:66", after := #[{ on := 10, ground := Ground.data }, { on := 17, ground := Ground.data }, { on := 1, ground := Ground.guard }], guard := some (1, true) }) (v := ?_) rfl (by kernel_rfl) (by kernel_rfl) (by kernel_rfl) (fun _ _ _ h => h) (Or.inl ⟨by rfl, ?_⟩) (by assumption) ?_
  rotate_left
  · intro w_ hSw; (try dsimp only at hSw); go_simp; (try with_reducible rfl)
  (try simp only [Act.put, List.setIfInBounds_toArray, List.set_cons_zero, List.set_cons_succ])
  refine wpAnyH_take (i := 19) (oi := { dst := some 35, op := Op.pick (Operand.tmp 17) (Operand.tmp 34) (Operand.const (Value.bool false)), type := 4, pos := "keeps.go:66", after := #[{ on := 1, ground := Ground.data }, { on := 18, ground := Ground.data }], guard := none }) (v := ?_) rfl (by kernel_rfl) (by kernel_rfl) (by kernel_rfl) (fun _ _ _ h => h) (Or.inl ⟨by rfl, ?_⟩) (by assumption) ?_
  rotate_left
  · intro w_ hSw; (try dsimp only at hSw); go_simp; (try with_reducible rfl)
  (try simp only [Act.put, List.setIfInBounds_toArray, List.set_cons_zero, List.set_cons_succ])
  refine wpAnyH_take (i := 20) (oi := { dst := some 36, op := Op.move (Operand.tmp 35), type := 4, pos := "keeps.go:66", after := #[{ on := 19, ground := Ground.data }, { on := 9, ground := Ground.chain }], guard := none }) (v := ?_) rfl (by kernel_rfl) (by kernel_rfl) (by kernel_rfl) (fun _ _ _ h => h) (Or.inl ⟨by rfl, ?_⟩) (by assumption) ?_
  rotate_left
  · intro w_ hSw; (try dsimp only at hSw); go_simp; (try with_reducible rfl)
  (try simp only [Act.put, List.setIfInBounds_toArray, List.set_cons_zero, List.set_cons_succ])
  refine wpAnyH_take (i := 21) (oi := { dst := some 37, op := Op.load 24 (Operand.tmp 5), type := 24, pos := "keeps.go:66", after := #[{ on := 20, ground := Ground.guard }], guard := some (20, true) }) (v := ?_) rfl (by kernel_rfl) (by kernel_rfl) (by kernel_rfl) (fun _ _ _ h => h) (Or.inl ⟨by rfl, ?_⟩) (by assumption) ?_
  rotate_left
  · intro w_ hSw; (try dsimp only at hSw); go_simp; (try with_reducible rfl)
  (try simp only [Act.put, List.setIfInBounds_toArray, List.set_cons_zero, List.set_cons_succ])
  refine wpAnyH_take (i := 24) (oi := { dst := some 40, op := Op.load 24 (Operand.tmp 5), type := 24, pos := "keeps.go:66", after := #[{ on := 20, ground := Ground.guard }], guard := some (20, true) }) (v := ?_) rfl (by kernel_rfl) (by kernel_rfl) (by kernel_rfl) (fun _ _ _ h => h) (Or.inl ⟨by rfl, ?_⟩) (by assumption) ?_
  rotate_left
  · intro w_ hSw; (try dsimp only at hSw); go_simp; (try with_reducible rfl)
  (try simp only [Act.put, List.setIfInBounds_toArray, List.set_cons_zero, List.set_cons_succ])
  refine wpAnyH_ready (rs := [22]) (by kernel_rfl) (by simp) ?_
  refine AllReadyH.cons rfl (fun K hK => ?_) AllReadyH.nil
  go_simp
  go_at_call 20
  (with_reducible refine (Text_s ok oR oA oS T2 HD3.out _).mono ?_)
  rintro e w6 ⟨rfl, hb6⟩
  replace X := hide (X.out.below hb6)
  replace HL := hide (HL.out.below hb6)
  replace hB := bcall hB hb6
  clear hb6
  (try go_simp)
  refine hK.out _ _ (by obtain ⟨a0, a1, a2, a3⟩ := X.out.all; obtain ⟨b0, b1, b2, b3, b4, b5, b6, b7⟩ := oq_two HL.out; exact ⟨a0, a1, a2, a3, b0, b1, b2, b3, b4, b5, b6, b7⟩) (fun hHeld => ?_)
  (try simp only [Act.put, List.setIfInBounds_toArray, List.set_cons_zero, List.set_cons_succ])
  refine wpAnyH_take (i := 23) (oi := { dst := some 39, op := Op.binOp BinOp.eql 9 (Operand.tmp 38) (Operand.const (Value.string { data := #[63] })) 9, type := 4, pos := "keeps.go:66", after := #[{ on := 22, ground := Ground.data }, { on := 20, ground := Ground.guard }], guard := some (20, true) }) (v := ?_) rfl (by kernel_rfl) (by kernel_rfl) (by kernel_rfl) (fun _ _ _ h => h) (Or.inl ⟨by rfl, ?_⟩) (by assumption) ?_
  rotate_left
  · intro w_ hSw; (try dsimp only at hSw); go_simp; (try with_reducible rfl)
  (try simp only [Act.put, List.setIfInBounds_toArray, List.set_cons_zero, List.set_cons_succ])
  refine wpAnyH_ready (rs := [25]) (by kernel_rfl) (by simp) ?_
  refine AllReadyH.cons rfl (fun K hK => ?_) AllReadyH.nil
  go_simp
  go_at_call 14
  (with_reducible refine (Right_c ok oR oA oS 4 4 R HR.out _).mono ?_)
  rintro e w7 ⟨rfl, hb7⟩
  replace X := hide (X.out.below hb7)
  replace HL := hide (HL.out.below hb7)
  replace hB := bcall hB hb7
  clear hb7
  (try go_simp)
  refine hK.out _ _ (by obtain ⟨a0, a1, a2, a3⟩ := X.out.all; obtain ⟨b0, b1, b2, b3, b4, b5, b6, b7⟩ := oq_two HL.out; exact ⟨a0, a1, a2, a3, b0, b1, b2, b3, b4, b5, b6, b7⟩) (fun hHeld => ?_)
  (try simp only [Act.put, List.setIfInBounds_toArray, List.set_cons_zero, List.set_cons_succ])
  refine wpAnyH_take (i := 26) (oi := { dst := some 42, op := Op.unOp UnOp.not 4 (Operand.tmp 41), type := 4, pos := "keeps.go:66", after := #[{ on := 25, ground := Ground.data }, { on := 20, ground := Ground.guard }], guard := some (20, true) }) (v := ?_) rfl (by kernel_rfl) (by kernel_rfl) (by kernel_rfl) (fun _ _ _ h => h) (Or.inl ⟨by rfl, ?_⟩) (by assumption) ?_
  rotate_left
  · intro w_ hSw; (try dsimp only at hSw); go_simp; (try with_reducible rfl)
  (try simp only [Act.put, List.setIfInBounds_toArray, List.set_cons_zero, List.set_cons_succ])
  refine wpAnyH_take (i := 27) (oi := { dst := some 43, op := Op.binOp BinOp.eql 4 (Operand.tmp 39) (Operand.tmp 42) 4, type := 4, pos := "keeps.go:66", after := #[{ on := 23, ground := Ground.data }, { on := 26, ground := Ground.data }, { on := 20, ground := Ground.guard }], guard := some (20, true) }) (v := ?_) rfl (by kernel_rfl) (by kernel_rfl) (by kernel_rfl) (fun _ _ _ h => h) (Or.inl ⟨by rfl, ?_⟩) (by assumption) ?_
  rotate_left
  · intro w_ hSw; (try dsimp only at hSw); go_simp; (try with_reducible rfl)
  (try simp only [Act.put, List.setIfInBounds_toArray, List.set_cons_zero, List.set_cons_succ])
  refine wpAnyH_take (i := 28) (oi := { dst := some 44, op := Op.pick (Operand.tmp 36) (Operand.tmp 43) (Operand.const (Value.bool false)), type := 4, pos := "keeps.go:66", after := #[{ on := 20, ground := Ground.data }, { on := 27, ground := Ground.data }], guard := none }) (v := ?_) rfl (by kernel_rfl) (by kernel_rfl) (by kernel_rfl) (fun _ _ _ h => h) (Or.inl ⟨by rfl, ?_⟩) (by assumption) ?_
  rotate_left
  · intro w_ hSw; (try dsimp only at hSw); go_simp; (try with_reducible rfl)
  (try simp only [Act.put, List.setIfInBounds_toArray, List.set_cons_zero, List.set_cons_succ])
  refine wpAnyH_take (i := 29) (oi := { dst := some 6, op := Op.assign (Operand.tmp 44), type := 4, pos := "keeps.go:66", after := #[{ on := 28, ground := Ground.data }, { on := 25, ground := Ground.chain }, { on := 0, ground := Ground.phase }, { on := 1, ground := Ground.phase }, { on := 2, ground := Ground.phase }, { on := 3, ground := Ground.phase }, { on := 4, ground := Ground.phase }, { on := 5, ground := Ground.phase }, { on := 6, ground := Ground.phase }, { on := 7, ground := Ground.phase }, { on := 8, ground := Ground.phase }, { on := 9, ground := Ground.phase }, { on := 10, ground := Ground.phase }, { on := 11, ground := Ground.phase }, { on := 12, ground := Ground.phase }, { on := 13, ground := Ground.phase }, { on := 14, ground := Ground.phase }, { on := 15, ground := Ground.phase }, { on := 16, ground := Ground.phase }, { on := 17, ground := Ground.phase }, { on := 18, ground := Ground.phase }, { on := 19, ground := Ground.phase }, { on := 20, ground := Ground.phase }, { on := 21, ground := Ground.phase }, { on := 22, ground := Ground.phase }, { on := 23, ground := Ground.phase }, { on := 24, ground := Ground.phase }, { on := 25, ground := Ground.phase }, { on := 26, ground := Ground.phase }, { on := 27, ground := Ground.phase }, { on := 28, ground := Ground.phase }], guard := none }) (v := ?_) rfl (by kernel_rfl) (by kernel_rfl) (by kernel_rfl) (fun _ _ _ h => h) (Or.inl ⟨by rfl, ?_⟩) (by assumption) ?_
  rotate_left
  · intro w_ hSw; (try dsimp only at hSw); go_simp; (try with_reducible rfl)
  (try simp only [Act.put, List.setIfInBounds_toArray, List.set_cons_zero, List.set_cons_succ])
  refine wpAnyH_done (by kernel_rfl) ?_ _
  go_wp2
  go_ret
  exact ⟨rfl, hB⟩

set_option maxRecDepth 100000 in
theorem lifted (os : Os) (started : os.Started) (H : Type) (enc : TypeId × Value → H) :
    ReturnsInHanded {} Tryd.checked os 6 .any (fun w args => (Rows.codeApartSpec.pre enc Tryd.prog Tryd.f6 Rows.codeApartRow.domain false w args ∧ laidMetH Tryd.prog Rows.codeApartRow.laid w) ∧ sizedMet enc Tryd.prog Tryd.f6 (OpenSpec.ofChange Rows.codeApartSpec) false w args) (Rows.codeApartSpec.post enc Tryd.prog Tryd.f6 false true false false) := by
  refine handed_and_shaped (C := Tryd.checked) (X := fun w _ => laidMetH Tryd.prog Rows.codeApartRow.laid w) (fun _ _ _ hh h => h.of_heap hh) ownL started (by kernel_rfl) Tryd.func6
    (ChangeSpec.witness_shaped (enc := enc) (C := Tryd.checked) (os := os) (X := fun w _ => laidMetH Tryd.prog Rows.codeApartRow.laid w) false (World.laidAll Tryd.prog os Rows.codeApartRow.laid) #[.int .u8 0, .int .u8 0, .agg #[.int .i64 0, .int .i64 0, .int .i64 0, .int .i64 0]] 8 (World.laidAll_os _ _ _)
      (World.shaped_of_ZipB (by kernel_rfl) (by kernel_rfl)) (by kernel_rfl) (by kernel_rfl) (by kernel_rfl)
      (by rw [MakeChecks.laidMetH_plain _ _ _ (by kernel_rfl)]; exact laidMet_laidAll _ (by kernel_rfl) (by kernel_rfl))) ?_
  intro W base args ds gs before hval0 hW hsz0 hL hsh
  have hval : ∀ (j : Nat) t v, Tryd.f6.params[j]? = some t → args[j]? = some v → Value.okWide Tryd.prog W .any base t v := hval0
  have hW' := hW
  obtain ⟨p, q, hA0, hV, rfl, hfz, hnd⟩ := hW
  have hA : DataW.TrodAll enc Tryd.prog W 0 (fun _ => true) true Tryd.f6.params.toList args.toList ds p := hA0
  rw [Tryd.params6] at hA hval
  obtain ⟨v0, vs0, d0, ds0, p0, q0, hargs, rfl, rfl, h0, r0⟩ := trodAll_cons hA
  obtain ⟨v1, vs1, d1, ds1, p1, q1, rfl, rfl, rfl, h1, r1⟩ := trodAll_cons r0
  obtain ⟨v2, vs2, d2, ds2, p2, q2, rfl, rfl, rfl, h2, r2⟩ := trodAll_cons r1
  obtain ⟨rfl, rfl, rfl⟩ := trodAll_nil r2
  obtain rfl : args = #[v0, v1, v2] := by cases args; simp_all
  obtain ⟨rfl, rfl⟩ := trodVars_none hV
  obtain ⟨a0, rfl, rfl, rfl, w0⟩ := open_int Tryd.underlying5 (hval 0 5 v0 rfl rfl) h0
  have hx0 : 0 ≤ a0 ∧ a0 ≤ 255 := by simpa [Lit.wf, IntKind.min, IntKind.max, IntKind.signed, IntKind.bits] using w0
  obtain ⟨a1, rfl, rfl, rfl, w1⟩ := open_int Tryd.underlying5 (hval 1 5 v1 rfl rfl) h1
  have hx1 : 0 ≤ a1 ∧ a1 ≤ 255 := by simpa [Lit.wf, IntKind.min, IntKind.max, IntKind.signed, IntKind.bits] using w1
  obtain ⟨k2, t2, a2, b2, rfl, hi2⟩ := open_cop (hval 2 24 v2 rfl rfl) h2
  have hE := trivial
  refine (walk a0 a1 hx0 hx1 k2 t2 a2 b2 W).mono fun e W' ⟨he, hg⟩ => ?_
  subst he
  exact ⟨_, rfl, law_post laidOutL (by kernel_rfl) rfl Tryd.underlying4 rfl ⟨rfl, rfl, rfl⟩ hW' hg⟩
theorem row_holds : Rows.CodeApartSaid :=
  OpenClaim.holds_of_wide 6 Tryd.f6 rfl rfl rfl rfl rfl rfl rfl ⟨rfl, rfl, rfl, rfl, rfl⟩ rfl rfl rfl rfl rfl (by kernel_rfl) Tryd.func6 (by kernel_rfl)
    (of_decide_eq_true (by kernel_rfl)) (by unfold Func.isWrapper; first | (rw [if_pos (by decide +kernel)]; kernel_rfl) | (rw [if_neg (by decide +kernel)]; exact ⟨rfl, rfl⟩))
    (fun os started H enc _ => lifted os started H enc)

/-- THE STATEMENT -/
theorem proved : Rows.CodeApartCardSaid :=
  Claim7.holds_tied_plain_at .later [] Rows.codeApartCard.laidKinds true Rows.codeApartCard.stood.harness Rows.codeApartCard.stood.looks
    row_holds (fun _ h => by cases h) (by kernel_rfl) (fun _ h => by cases h) codeApart_row_tie rfl ⟨rfl, rfl⟩ (by kernel_rfl) rfl
    (fun f fn hf hfn => by
      obtain rfl : f = 6 := Option.some.inj ((show Tryd.prog.funcNamed Rows.codeApartRow.func = some 6 by kernel_rfl).symm.trans hf) |>.symm
      obtain rfl : fn = Tryd.f6 := (Option.some.inj (Tryd.func6.symm.trans hfn)).symm
      exact ⟨by kernel_rfl, fun j t ht => by
        rw [Tryd.params6] at ht
        have hm : t ∈ [5, 5, 24] := by simpa using Array.mem_of_getElem? ht
        have hall : ([5, 5, 24].all fun u => !Tryd.prog.wantsStandIn u) = true := by kernel_rfl
        exact (show Tryd.prog.wantsStandIn t = false by simpa using List.all_eq_true.1 hall t hm)⟩)
    (by kernel_rfl)
end Go.Proofs.YtffdgkofolomlaaDoor.lawCodeApart
