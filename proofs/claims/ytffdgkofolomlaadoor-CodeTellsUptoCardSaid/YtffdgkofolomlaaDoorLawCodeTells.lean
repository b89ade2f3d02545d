/- CodeTells: of any ops, numbers, any text all is told as the chapter says (the document's own answer). Where what comes in is of bulk at most 1048576. -/
import Derived.Test.YtffdgkofolomlaaDoorCodeTellsOpen
namespace Go.Proofs.YtffdgkofolomlaaDoor.lawCodeTells
open Go.RowKit Go.WideShapes Go.ChangeShapes Go.ChangeAt Go.Deep Go.Proofs Go.Proofs.YtffdgkofolomlaaDoor

theorem parse_len {t : List UInt8} {L : List Oq} (h : (cParse t).1 = L) : L.length ≤ 64 := by
  subst h
  unfold cParse
  split
  · simp
  · split
    · simp
    · split
      · simp
      · simp only; omega
set_option maxRecDepth 100000 in
set_option maxHeartbeats 8000000 in
theorem walk (v : Value) (l : List Oq) (ok oR oA oS regs slots : Int) (s : ByteArray) (hl : l.length ≤ 1048576) (hs : s.size ≤ 1048576) (w : World) (h : Oqs w v l) : Calls Tryd.prog 3 #[v, qv ok oR oA oS, .int .i64 regs, .int .i64 slots, .string s] w fun e w' => e = .returned (.bool true) ∧ Below w.heap.size w w' := by
  have HO := hide h
  obtain ⟨A, c, rfl, hm1, hm2, -⟩ := id h
  unfold maxLen at hm2
  clear h
  obtain ⟨NL, hNL⟩ : ∃ R, l.length = R := ⟨_, rfl⟩
  rw [hNL] at HO hl hm1 ⊢
  have HNL := hide hNL
  clear hNL
  obtain ⟨t, h_HT⟩ : ∃ R, s.data.toList = R := ⟨_, rfl⟩
  have HT := hide h_HT
  clear h_HT
  obtain ⟨⟨L, e⟩, h_HP⟩ : ∃ R, cParse t = R := ⟨_, rfl⟩
  have HP := hide h_HP
  clear h_HP
  obtain ⟨N, h_HN⟩ : ∃ R, L.length = R := ⟨_, rfl⟩
  have HN := hide h_HN
  clear h_HN
  obtain ⟨br, h_HR⟩ : ∃ R, cRight ⟨ok, oR, oA, oS⟩ regs slots = R := ⟨_, rfl⟩
  have HR := hide h_HR
  clear h_HR
  obtain ⟨bf, h_HF⟩ : ∃ R, cFits l regs slots = R := ⟨_, rfl⟩
  have HF := hide h_HF
  clear h_HF
  obtain ⟨nw, h_HW⟩ : ∃ R, cWrites l = R := ⟨_, rfl⟩
  have HW := hide h_HW
  clear h_HW
  obtain ⟨PT, h_HTX⟩ : ∃ R, (⟨(cText ⟨ok, oR, oA, oS⟩).toArray⟩ : ByteArray) = R := ⟨_, rfl⟩
  have HTX := hide h_HTX
  clear h_HTX
  obtain ⟨PP, h_HPR⟩ : ∃ R, (⟨(cPrint l).toArray⟩ : ByteArray) = R := ⟨_, rfl⟩
  have HPR := hide h_HPR
  clear h_HPR
  have HNN := hide (show N ≤ 1048577 by rw [← HN.out]; have h1 := parse_len (L := L) (t := t) (by rw [HP.out]); omega)
  have r_e : (e == e) = true := by simp
  have r_br : (br == br) = true := by simp
  have r_bf : (bf == bf) = true := by simp
  have hB : Below w.heap.size w w := Below.refl _ _
  obtain ⟨w0, e0, hb0, hs0, X⟩ := b4_new w (.int .i64 ok) (.int .i64 oR) (.int .i64 oA) (.int .i64 oS) 24
  have HE0 := hide e0
  have X := hide X
  clear e0 hs0
  replace HO := hide (HO.out.below hb0)
  replace hB := bcall hB hb0
  clear hb0
  go_enter Tryd.func3, Tryd.ntmps3
  go_upto_region 1 with (fail)
  rw [HE0.out]
  go_wp2_with fail
  (with_reducible refine (examples_any _).mono ?_)
  rintro e w1 ⟨rfl, hb1⟩
  replace X := hide (X.out.below hb1)
  replace HO := hide (HO.out.below hb1)
  replace hB := bcall hB hb1
  have hs1 := hb1.size
  clear hb1
  go_wp2_with fail
  (with_reducible refine (Parse_c t L e N HP.out HN.out s HT.out (by omega) _).mono ?_)
  rintro e w2 ⟨A1, c1, rfl, ⟨p1, q1⟩, H1, hb2⟩
  replace X := hide (X.out.below hb2)
  replace HO := hide (HO.out.below hb2)
  replace hB := bcall hB hb2
  have hs2 := hb2.size
  clear hb2
  have H1 := hide H1
  go_wp2_with fail
  (with_reducible refine (rParse_c t L e N HP.out HN.out s HT.out hs _).mono ?_)
  rintro e w3 ⟨A2, c2, rfl, ⟨p2, q2⟩, H2, hb3⟩
  replace X := hide (X.out.below hb3)
  replace HO := hide (HO.out.below hb3)
  replace H1 := hide (H1.out.below hb3)
  replace hB := bcall hB hb3
  have hs3 := hb3.size
  clear hb3
  have H2 := hide H2
  go_wp2_with fail
  (with_reducible refine (refs_c l A c NL HNL.out _ HO.out (by omega)).mono ?_)
  rintro e w4 ⟨A3, c3, rfl, ⟨p3, q3⟩, H3, hb4⟩
  replace X := hide (X.out.below hb4)
  replace HO := hide (HO.out.below hb4)
  replace H1 := hide (H1.out.below hb4)
  replace H2 := hide (H2.out.below hb4)
  replace hB := bcall hB hb4
  have hs4 := hb4.size
  clear hb4
  have H3 := hide H3
  obtain ⟨w9, e9, hb9, hL9⟩ := lit_op w4 ok oR oA oS
  have HE9 := hide e9
  have HL9 := hide hL9
  obtain ⟨x0, x1, x2, x3⟩ := X.out.all
  clear e9 hL9
  go_wp2_with fail
  rw [HE9.out]
  clear x0 x1 x2 x3
  replace X := hide (X.out.below hb9)
  replace HO := hide (HO.out.below hb9)
  replace H1 := hide (H1.out.below hb9)
  replace H2 := hide (H2.out.below hb9)
  replace H3 := hide (H3.out.below hb9)
  replace hB := bcall hB hb9
  have hs9 := hb9.size
  clear hb9
  (with_reducible refine (refs_c [⟨ok, oR, oA, oS⟩] _ 1 1 rfl _ HL9.out (by decide)).mono ?_)
  rintro e w10 ⟨A4, c4, rfl, ⟨p4, q4⟩, H4, hb10⟩
  have hs10 := hb10.size
  replace X := hide (X.out.below hb10)
  replace HO := hide (HO.out.below hb10)
  replace H1 := hide (H1.out.below hb10)
  replace H2 := hide (H2.out.below hb10)
  replace H3 := hide (H3.out.below hb10)
  replace hB := bcall hB hb10
  clear hb10 HL9
  obtain ⟨g, off, rfl⟩ := oq_addr H4 rfl (by decide)
  have y := oq_cells H4 rfl (i := 0) rfl rfl
  simp only [Nat.zero_mul, Nat.add_zero] at y
  obtain ⟨y0, y1, y2, y3⟩ := y
  obtain ⟨w11, e11, hb11, hs11, Y⟩ := b4_new w10 (.int .i64 ok) (.int .i64 oR) (.int .i64 oA) (.int .i64 oS) 33
  have HE11 := hide e11
  have Y := hide Y
  clear e11
  replace X := hide (X.out.below hb11)
  replace HO := hide (HO.out.below hb11)
  replace H1 := hide (H1.out.below hb11)
  replace H2 := hide (H2.out.below hb11)
  replace H3 := hide (H3.out.below hb11)
  replace hB := bcall hB hb11
  clear hb11
  go_upto_region 8 with (fail)
  rw [HE11.out]
  clear y0 y1 y2 y3 H4
  go_wp2
  replace X := hide (b4_all_drew X.out)
  replace Y := hide (b4_all_drew Y.out)
  replace hB := below_drew hB
  replace HO := hide (oqs_drew HO.out)
  replace H1 := hide (oqs_drew H1.out)
  replace H2 := hide (oqs_drew H2.out)
  replace H3 := hide (oqs_drew H3.out)
  refine wp_region_held_drew (S := fun w' => w'.cell? ⟨w.heap.size, 0, none⟩ = some (.int .i64 ok) ∧ w'.cell? ⟨w.heap.size, 1, none⟩ = some (.int .i64 oR) ∧ w'.cell? ⟨w.heap.size, 2, none⟩ = some (.int .i64 oA) ∧ w'.cell? ⟨w.heap.size, 3, none⟩ = some (.int .i64 oS) ∧ w'.cell? ⟨w10.heap.size, 0, none⟩ = some (.int .i64 ok) ∧ w'.cell? ⟨w10.heap.size, 1, none⟩ = some (.int .i64 oR) ∧ w'.cell? ⟨w10.heap.size, 2, none⟩ = some (.int .i64 oA) ∧ w'.cell? ⟨w10.heap.size, 3, none⟩ = some (.int .i64 oS)) (by kernel_rfl) ?_ (fun hHeld => ?_)
  · exact (by obtain ⟨a0, a1, a2, a3⟩ := X.out.all; obtain ⟨b0, b1, b2, b3⟩ := Y.out.all; exact ⟨a0, a1, a2, a3, b0, b1, b2, b3⟩)
  refine wpAnyH_take (i := 0) (oi := { dst := some 38, op := Op.move (Operand.tmp 11), type := 4, pos := "law.go:55", after := #[], guard := none }) (v := ?_) rfl (by kernel_rfl) (by kernel_rfl) (by kernel_rfl) (fun _ _ _ h => h) (Or.inl ⟨by rfl, ?_⟩) (by assumption) ?_
  rotate_left
  · intro w_ hSw; (try dsimp only at hSw); go_simp; (try with_reducible rfl)
  (try simp only [Act.put, List.setIfInBounds_toArray, List.set_cons_zero, List.set_cons_succ])
  refine wpAnyH_take (i := 1) (oi := { dst := some 39, op := Op.move (Operand.tmp 38), type := 4, pos := "law.go:55", after := #[{ on := 0, ground := Ground.data }], guard := none }) (v := ?_) rfl (by kernel_rfl) (by kernel_rfl) (by kernel_rfl) (fun _ _ _ h => h) (Or.inl ⟨by rfl, ?_⟩) (by assumption) ?_
  rotate_left
  · intro w_ hSw; (try dsimp only at hSw); go_simp; (try with_reducible rfl)
  (try simp only [Act.put, List.setIfInBounds_toArray, List.set_cons_zero, List.set_cons_succ])
  refine wpAnyH_take (i := 2) (oi := { dst := some 40, op := Op.move (Operand.tmp 12), type := 22, pos := "law.go:55", after := #[{ on := 1, ground := Ground.guard }], guard := some (1, true) }) (v := ?_) rfl (by kernel_rfl) (by kernel_rfl) (by kernel_rfl) (fun _ _ _ h => h) (Or.inl ⟨by rfl, ?_⟩) (by assumption) ?_
  rotate_left
  · intro w_ hSw; (try dsimp only at hSw); go_simp; (try with_reducible rfl)
  (try simp only [Act.put, List.setIfInBounds_toArray, List.set_cons_zero, List.set_cons_succ])
  refine wpAnyH_take (i := 3) (oi := { dst := some 41, op := Op.move (Operand.tmp 14), type := 29, pos := "law.go:55", after := #[{ on := 1, ground := Ground.guard }], guard := some (1, true) }) (v := ?_) rfl (by kernel_rfl) (by kernel_rfl) (by kernel_rfl) (fun _ _ _ h => h) (Or.inl ⟨by rfl, ?_⟩) (by assumption) ?_
  rotate_left
  · intro w_ hSw; (try dsimp only at hSw); go_simp; (try with_reducible rfl)
  (try simp only [Act.put, List.setIfInBounds_toArray, List.set_cons_zero, List.set_cons_succ])
  refine wpAnyH_ready (rs := [4]) (by kernel_rfl) (by simp) ?_
  refine AllReadyH.cons rfl (fun K hK => ?_) AllReadyH.nil
  go_simp
  go_at_call 13
  (with_reducible refine (same_c L N A1 A2 c1 c2 HN.out _ H1.out H2.out HNN.out).mono ?_)
  rintro e w20 ⟨rfl, hb20⟩
  replace X := hide (X.out.below hb20)
  replace HO := hide (HO.out.below hb20)
  replace H1 := hide (H1.out.below hb20)
  replace H2 := hide (H2.out.below hb20)
  replace H3 := hide (H3.out.below hb20)
  replace Y := hide (Y.out.below hb20)
  replace hB := bcall hB hb20
  clear hb20
  (try go_simp)
  refine hK.out _ _ (by obtain ⟨a0, a1, a2, a3⟩ := X.out.all; obtain ⟨b0, b1, b2, b3⟩ := Y.out.all; exact ⟨a0, a1, a2, a3, b0, b1, b2, b3⟩) (fun hHeld => ?_)
  (try simp only [Act.put, List.setIfInBounds_toArray, List.set_cons_zero, List.set_cons_succ])
  refine wpAnyH_take (i := 5) (oi := { dst := some 43, op := Op.pick (Operand.tmp 39) (Operand.tmp 42) (Operand.const (Value.bool false)), type := 4, pos := "law.go:55", after := #[{ on := 1, ground := Ground.data }, { on := 4, ground := Ground.data }], guard := none }) (v := ?_) rfl (by kernel_rfl) (by kernel_rfl) (by kernel_rfl) (fun _ _ _ h => h) (Or.inl ⟨by rfl, ?_⟩) (by assumption) ?_
  rotate_left
  · intro w_ hSw; (try dsimp only at hSw); go_simp; (try with_reducible rfl)
  (try simp only [Act.put, List.setIfInBounds_toArray, List.set_cons_zero, List.set_cons_succ])
  refine wpAnyH_take (i := 6) (oi := { dst := some 44, op := Op.move (Operand.tmp 43), type := 4, pos := "law.go:55", after := #[{ on := 5, ground := Ground.data }, { on := 4, ground := Ground.chain }], guard := none }) (v := ?_) rfl (by kernel_rfl) (by kernel_rfl) (by kernel_rfl) (fun _ _ _ h => h) (Or.inl ⟨by rfl, ?_⟩) (by assumption) ?_
  rotate_left
  · intro w_ hSw; (try dsimp only at hSw); go_simp; (try with_reducible rfl)
  (try simp only [Act.put, List.setIfInBounds_toArray, List.set_cons_zero, List.set_cons_succ])
  refine wpAnyH_take (i := 7) (oi := { dst := some 45, op := Op.move (Operand.tmp 13), type := 26, pos := "law.go:55", after := #[{ on := 6, ground := Ground.guard }], guard := some (6, true) }) (v := ?_) rfl (by kernel_rfl) (by kernel_rfl) (by kernel_rfl) (fun _ _ _ h => h) (Or.inl ⟨by rfl, ?_⟩) (by assumption) ?_
  rotate_left
  · intro w_ hSw; (try dsimp only at hSw); go_simp; (try with_reducible rfl)
  (try simp only [Act.put, List.setIfInBounds_toArray, List.set_cons_zero, List.set_cons_succ])
  refine wpAnyH_take (i := 8) (oi := { dst := some 46, op := Op.move (Operand.tmp 15), type := 3, pos := "law.go:55", after := #[{ on := 6, ground := Ground.guard }], guard := some (6, true) }) (v := ?_) rfl (by kernel_rfl) (by kernel_rfl) (by kernel_rfl) (fun _ _ _ h => h) (Or.inl ⟨by rfl, ?_⟩) (by assumption) ?_
  rotate_left
  · intro w_ hSw; (try dsimp only at hSw); go_simp; (try with_reducible rfl)
  (try simp only [Act.put, List.setIfInBounds_toArray, List.set_cons_zero, List.set_cons_succ])
  refine wpAnyH_take (i := 9) (oi := { dst := some 47, op := Op.binOp BinOp.eql 3 (Operand.tmp 45) (Operand.tmp 46) 3, type := 4, pos := "law.go:55", after := #[{ on := 7, ground := Ground.data }, { on := 8, ground := Ground.data }, { on := 6, ground := Ground.guard }], guard := some (6, true) }) (v := ?_) rfl (by kernel_rfl) (by kernel_rfl) (by kernel_rfl) (fun _ _ _ h => h) (Or.inl ⟨by rfl, ?_⟩) (by assumption) ?_
  rotate_left
  · intro w_ hSw; (try dsimp only at hSw); go_simp; (try with_reducible rfl)
  (try simp only [Act.put, List.setIfInBounds_toArray, List.set_cons_zero, List.set_cons_succ])
  refine wpAnyH_take (i := 10) (oi := { dst := some 48, op := Op.pick (Operand.tmp 44) (Operand.tmp 47) (Operand.const (Value.bool false)), type := 4, pos := "law.go:55", after := #[{ on := 6, ground := Ground.data }, { on := 9, ground := Ground.data }], guard := none }) (v := ?_) rfl (by kernel_rfl) (by kernel_rfl) (by kernel_rfl) (fun _ _ _ h => h) (Or.inl ⟨by rfl, ?_⟩) (by assumption) ?_
  rotate_left
  · intro w_ hSw; (try dsimp only at hSw); go_simp; (try with_reducible rfl)
  (try simp only [Act.put, List.setIfInBounds_toArray, List.set_cons_zero, List.set_cons_succ])
  refine wpAnyH_take (i := 11) (oi := { dst := some 49, op := Op.move (Operand.tmp 48), type := 4, pos := "law.go:55", after := #[{ on := 10, ground := Ground.data }, { on := 6, ground := Ground.chain }], guard := none }) (v := ?_) rfl (by kernel_rfl) (by kernel_rfl) (by kernel_rfl) (fun _ _ _ h => h) (Or.inl ⟨by rfl, ?_⟩) (by assumption) ?_
  rotate_left
  · intro w_ hSw; (try dsimp only at hSw); go_simp; (try with_reducible rfl)
  (try simp only [Act.put, List.setIfInBounds_toArray, List.set_cons_zero, List.set_cons_succ])
  refine wpAnyH_take (i := 12) (oi := { dst := some 50, op := Op.load 24 (Operand.tmp 6), type := 24, pos := "law.go:55", after := #[{ on := 11, ground := Ground.guard }], guard := some (11, true) }) (v := ?_) rfl (by kernel_rfl) (by kernel_rfl) (by kernel_rfl) (fun _ _ _ h => h) (Or.inl ⟨by rfl, ?_⟩) (by assumption) ?_
  rotate_left
  · intro w_ hSw; (try dsimp only at hSw); go_simp; (try with_reducible rfl)
  (try simp only [Act.put, List.setIfInBounds_toArray, List.set_cons_zero, List.set_cons_succ])
  refine wpAnyH_take (i := 13) (oi := { dst := some 51, op := Op.move (Operand.tmp 2), type := 3, pos := "law.go:55", after := #[{ on := 11, ground := Ground.guard }], guard := some (11, true) }) (v := ?_) rfl (by kernel_rfl) (by kernel_rfl) (by kernel_rfl) (fun _ _ _ h => h) (Or.inl ⟨by rfl, ?_⟩) (by assumption) ?_
  rotate_left
  · intro w_ hSw; (try dsimp only at hSw); go_simp; (try with_reducible rfl)
  (try simp only [Act.put, List.setIfInBounds_toArray, List.set_cons_zero, List.set_cons_succ])
  refine wpAnyH_take (i := 14) (oi := { dst := some 52, op := Op.move (Operand.tmp 3), type := 3, pos := "law.go:55", after := #[{ on := 11, ground := Ground.guard }], guard := some (11, true) }) (v := ?_) rfl (by kernel_rfl) (by kernel_rfl) (by kernel_rfl) (fun _ _ _ h => h) (Or.inl ⟨by rfl, ?_⟩) (by assumption) ?_
  rotate_left
  · intro w_ hSw; (try dsimp only at hSw); go_simp; (try with_reducible rfl)
  (try simp only [Act.put, List.setIfInBounds_toArray, List.set_cons_zero, List.set_cons_succ])
  refine wpAnyH_take (i := 16) (oi := { dst := some 54, op := Op.load 33 (Operand.tmp 17), type := 33, pos := "law.go:55", after := #[{ on := 11, ground := Ground.guard }], guard := some (11, true) }) (v := ?_) rfl (by kernel_rfl) (by kernel_rfl) (by kernel_rfl) (fun _ _ _ h => h) (Or.inl ⟨by rfl, ?_⟩) (by assumption) ?_
  rotate_left
  · intro w_ hSw; (try dsimp only at hSw); go_simp; (try with_reducible rfl)
  (try simp only [Act.put, List.setIfInBounds_toArray, List.set_cons_zero, List.set_cons_succ])
  refine wpAnyH_take (i := 17) (oi := { dst := some 55, op := Op.move (Operand.tmp 2), type := 3, pos := "law.go:55", after := #[{ on := 11, ground := Ground.guard }], guard := some (11, true) }) (v := ?_) rfl (by kernel_rfl) (by kernel_rfl) (by kernel_rfl) (fun _ _ _ h => h) (Or.inl ⟨by rfl, ?_⟩) (by assumption) ?_
  rotate_left
  · intro w_ hSw; (try dsimp only at hSw); go_simp; (try with_reducible rfl)
  (try simp only [Act.put, List.setIfInBounds_toArray, List.set_cons_zero, List.set_cons_succ])
  refine wpAnyH_take (i := 18) (oi := { dst := some 56, op := Op.move (Operand.tmp 3), type := 3, pos := "law.go:55", after := #[{ on := 11, ground := Ground.guard }], guard := some (11, true) }) (v := ?_) rfl (by kernel_rfl) (by kernel_rfl) (by kernel_rfl) (fun _ _ _ h => h) (Or.inl ⟨by rfl, ?_⟩) (by assumption) ?_
  rotate_left
  · intro w_ hSw; (try dsimp only at hSw); go_simp; (try with_reducible rfl)
  (try simp only [Act.put, List.setIfInBounds_toArray, List.set_cons_zero, List.set_cons_succ])
  refine wpAnyH_ready (rs := [15]) (by kernel_rfl) (by simp) ?_
  refine AllReadyH.cons rfl (fun K hK => ?_) AllReadyH.nil
  go_simp
  go_at_call 14
  (with_reducible refine (Right_c ok oR oA oS regs slots br HR.out _).mono ?_)
  rintro e w21 ⟨rfl, hb21⟩
  replace X := hide (X.out.below hb21)
  replace HO := hide (HO.out.below hb21)
  replace H1 := hide (H1.out.below hb21)
  replace H2 := hide (H2.out.below hb21)
  replace H3 := hide (H3.out.below hb21)
  replace Y := hide (Y.out.below hb21)
  replace hB := bcall hB hb21
  clear hb21
  (try go_simp)
  refine hK.out _ _ (by obtain ⟨a0, a1, a2, a3⟩ := X.out.all; obtain ⟨b0, b1, b2, b3⟩ := Y.out.all; exact ⟨a0, a1, a2, a3, b0, b1, b2, b3⟩) (fun hHeld => ?_)
  (try simp only [Act.put, List.setIfInBounds_toArray, List.set_cons_zero, List.set_cons_succ])
  refine wpAnyH_ready (rs := [19]) (by kernel_rfl) (by simp) ?_
  refine AllReadyH.cons rfl (fun K hK => ?_) AllReadyH.nil
  go_simp
  go_at_call 15
  (with_reducible refine (rRight_c ok oR oA oS regs slots br HR.out _).mono ?_)
  rintro e w22 ⟨rfl, hb22⟩
  replace X := hide (X.out.below hb22)
  replace HO := hide (HO.out.below hb22)
  replace H1 := hide (H1.out.below hb22)
  replace H2 := hide (H2.out.below hb22)
  replace H3 := hide (H3.out.below hb22)
  replace Y := hide (Y.out.below hb22)
  replace hB := bcall hB hb22
  clear hb22
  (try go_simp)
  refine hK.out _ _ (by obtain ⟨a0, a1, a2, a3⟩ := X.out.all; obtain ⟨b0, b1, b2, b3⟩ := Y.out.all; exact ⟨a0, a1, a2, a3, b0, b1, b2, b3⟩) (fun hHeld => ?_)
  (try simp only [Act.put, List.setIfInBounds_toArray, List.set_cons_zero, List.set_cons_succ])
  refine wpAnyH_take (i := 20) (oi := { dst := some 58, op := Op.binOp BinOp.eql 4 (Operand.tmp 53) (Operand.tmp 57) 4, type := 4, pos := "law.go:55", after := #[{ on := 15, ground := Ground.data }, { on := 19, ground := Ground.data }, { on := 11, ground := Ground.guard }], guard := some (11, true) }) (v := ?_) rfl (by kernel_rfl) (by kernel_rfl) (by kernel_rfl) (fun _ _ _ h => h) (Or.inl ⟨by rfl, ?_⟩) (by assumption) ?_
  rotate_left
  · intro w_ hSw; (try dsimp only at hSw); go_simp; (try with_reducible rfl)
  (try simp only [Act.put, List.setIfInBounds_toArray, List.set_cons_zero, List.set_cons_succ])
  refine wpAnyH_take (i := 21) (oi := { dst := some 59, op := Op.pick (Operand.tmp 49) (Operand.tmp 58) (Operand.const (Value.bool false)), type := 4, pos := "law.go:55", after := #[{ on := 11, ground := Ground.data }, { on := 20, ground := Ground.data }], guard := none }) (v := ?_) rfl (by kernel_rfl) (by kernel_rfl) (by kernel_rfl) (fun _ _ _ h => h) (Or.inl ⟨by rfl, ?_⟩) (by assumption) ?_
  rotate_left
  · intro w_ hSw; (try dsimp only at hSw); go_simp; (try with_reducible rfl)
  (try simp only [Act.put, List.setIfInBounds_toArray, List.set_cons_zero, List.set_cons_succ])
  refine wpAnyH_take (i := 22) (oi := { dst := some 60, op := Op.move (Operand.tmp 59), type := 4, pos := "law.go:55", after := #[{ on := 21, ground := Ground.data }, { on := 19, ground := Ground.chain }], guard := none }) (v := ?_) rfl (by kernel_rfl) (by kernel_rfl) (by kernel_rfl) (fun _ _ _ h => h) (Or.inl ⟨by rfl, ?_⟩) (by assumption) ?_
  rotate_left
  · intro w_ hSw; (try dsimp only at hSw); go_simp; (try with_reducible rfl)
  (try simp only [Act.put, List.setIfInBounds_toArray, List.set_cons_zero, List.set_cons_succ])
  refine wpAnyH_take (i := 23) (oi := { dst := some 61, op := Op.move (Operand.tmp 0), type := 22, pos := "law.go:55", after := #[{ on := 22, ground := Ground.guard }], guard := some (22, true) }) (v := ?_) rfl (by kernel_rfl) (by kernel_rfl) (by kernel_rfl) (fun _ _ _ h => h) (Or.inl ⟨by rfl, ?_⟩) (by assumption) ?_
  rotate_left
  · intro w_ hSw; (try dsimp only at hSw); go_simp; (try with_reducible rfl)
  (try simp only [Act.put, List.setIfInBounds_toArray, List.set_cons_zero, List.set_cons_succ])
  refine wpAnyH_take (i := 24) (oi := { dst := some 62, op := Op.move (Operand.tmp 2), type := 3, pos := "law.go:55", after := #[{ on := 22, ground := Ground.guard }], guard := some (22, true) }) (v := ?_) rfl (by kernel_rfl) (by kernel_rfl) (by kernel_rfl) (fun _ _ _ h => h) (Or.inl ⟨by rfl, ?_⟩) (by assumption) ?_
  rotate_left
  · intro w_ hSw; (try dsimp only at hSw); go_simp; (try with_reducible rfl)
  (try simp only [Act.put, List.setIfInBounds_toArray, List.set_cons_zero, List.set_cons_succ])
  refine wpAnyH_take (i := 25) (oi := { dst := some 63, op := Op.move (Operand.tmp 3), type := 3, pos := "law.go:55", after := #[{ on := 22, ground := Ground.guard }], guard := some (22, true) }) (v := ?_) rfl (by kernel_rfl) (by kernel_rfl) (by kernel_rfl) (fun _ _ _ h => h) (Or.inl ⟨by rfl, ?_⟩) (by assumption) ?_
  rotate_left
  · intro w_ hSw; (try dsimp only at hSw); go_simp; (try with_reducible rfl)
  (try simp only [Act.put, List.setIfInBounds_toArray, List.set_cons_zero, List.set_cons_succ])
  refine wpAnyH_take (i := 27) (oi := { dst := some 65, op := Op.move (Operand.tmp 16), type := 29, pos := "law.go:55", after := #[{ on := 22, ground := Ground.guard }], guard := some (22, true) }) (v := ?_) rfl (by kernel_rfl) (by kernel_rfl) (by kernel_rfl) (fun _ _ _ h => h) (Or.inl ⟨by rfl, ?_⟩) (by assumption) ?_
  rotate_left
  · intro w_ hSw; (try dsimp only at hSw); go_simp; (try with_reducible rfl)
  (try simp only [Act.put, List.setIfInBounds_toArray, List.set_cons_zero, List.set_cons_succ])
  refine wpAnyH_take (i := 28) (oi := { dst := some 66, op := Op.move (Operand.tmp 2), type := 3, pos := "law.go:55", after := #[{ on := 22, ground := Ground.guard }], guard := some (22, true) }) (v := ?_) rfl (by kernel_rfl) (by kernel_rfl) (by kernel_rfl) (fun _ _ _ h => h) (Or.inl ⟨by rfl, ?_⟩) (by assumption) ?_
  rotate_left
  · intro w_ hSw; (try dsimp only at hSw); go_simp; (try with_reducible rfl)
  (try simp only [Act.put, List.setIfInBounds_toArray, List.set_cons_zero, List.set_cons_succ])
  refine wpAnyH_take (i := 29) (oi := { dst := some 67, op := Op.move (Operand.tmp 3), type := 3, pos := "law.go:55", after := #[{ on := 22, ground := Ground.guard }], guard := some (22, true) }) (v := ?_) rfl (by kernel_rfl) (by kernel_rfl) (by kernel_rfl) (fun _ _ _ h => h) (Or.inl ⟨by rfl, ?_⟩) (by assumption) ?_
  rotate_left
  · intro w_ hSw; (try dsimp only at hSw); go_simp; (try with_reducible rfl)
  (try simp only [Act.put, List.setIfInBounds_toArray, List.set_cons_zero, List.set_cons_succ])
  refine wpAnyH_ready (rs := [26]) (by kernel_rfl) (by simp) ?_
  refine AllReadyH.cons rfl (fun K hK => ?_) AllReadyH.nil
  go_simp
  go_at_call 16
  (with_reducible refine (Fits_c l NL regs slots bf _ _ HNL.out HF.out _ HO.out).mono ?_)
  rintro e w23 ⟨rfl, hb23⟩
  replace X := hide (X.out.below hb23)
  replace HO := hide (HO.out.below hb23)
  replace H1 := hide (H1.out.below hb23)
  replace H2 := hide (H2.out.below hb23)
  replace H3 := hide (H3.out.below hb23)
  replace Y := hide (Y.out.below hb23)
  replace hB := bcall hB hb23
  clear hb23
  (try go_simp)
  refine hK.out _ _ (by obtain ⟨a0, a1, a2, a3⟩ := X.out.all; obtain ⟨b0, b1, b2, b3⟩ := Y.out.all; exact ⟨a0, a1, a2, a3, b0, b1, b2, b3⟩) (fun hHeld => ?_)
  (try simp only [Act.put, List.setIfInBounds_toArray, List.set_cons_zero, List.set_cons_succ])
  refine wpAnyH_ready (rs := [30]) (by kernel_rfl) (by simp) ?_
  refine AllReadyH.cons rfl (fun K hK => ?_) AllReadyH.nil
  go_simp
  go_at_call 17
  (with_reducible refine (rFits_c l NL regs slots bf _ _ HNL.out HF.out _ H3.out).mono ?_)
  rintro e w24 ⟨rfl, hb24⟩
  replace X := hide (X.out.below hb24)
  replace HO := hide (HO.out.below hb24)
  replace H1 := hide (H1.out.below hb24)
  replace H2 := hide (H2.out.below hb24)
  replace H3 := hide (H3.out.below hb24)
  replace Y := hide (Y.out.below hb24)
  replace hB := bcall hB hb24
  clear hb24
  (try go_simp)
  refine hK.out _ _ (by obtain ⟨a0, a1, a2, a3⟩ := X.out.all; obtain ⟨b0, b1, b2, b3⟩ := Y.out.all; exact ⟨a0, a1, a2, a3, b0, b1, b2, b3⟩) (fun hHeld => ?_)
  (try simp only [Act.put, List.setIfInBounds_toArray, List.set_cons_zero, List.set_cons_succ])
  refine wpAnyH_take (i := 31) (oi := { dst := some 69, op := Op.binOp BinOp.eql 4 (Operand.tmp 64) (Operand.tmp 68) 4, type := 4, pos := "law.go:55", after := #[{ on := 26, ground := Ground.data }, { on := 30, ground := Ground.data }, { on := 22, ground := Ground.guard }], guard := some (22, true) }) (v := ?_) rfl (by kernel_rfl) (by kernel_rfl) (by kernel_rfl) (fun _ _ _ h => h) (Or.inl ⟨by rfl, ?_⟩) (by assumption) ?_
  rotate_left
  · intro w_ hSw; (try dsimp only at hSw); go_simp; (try with_reducible rfl)
  (try simp only [Act.put, List.setIfInBounds_toArray, List.set_cons_zero, List.set_cons_succ])
  refine wpAnyH_take (i := 32) (oi := { dst := some 70, op := Op.pick (Operand.tmp 60) (Operand.tmp 69) (Operand.const (Value.bool false)), type := 4, pos := "law.go:55", after := #[{ on := 22, ground := Ground.data }, { on := 31, ground := Ground.data }], guard := none }) (v := ?_) rfl (by kernel_rfl) (by kernel_rfl) (by kernel_rfl) (fun _ _ _ h => h) (Or.inl ⟨by rfl, ?_⟩) (by assumption) ?_
  rotate_left
  · intro w_ hSw; (try dsimp only at hSw); go_simp; (try with_reducible rfl)
  (try simp only [Act.put, List.setIfInBounds_toArray, List.set_cons_zero, List.set_cons_succ])
  refine wpAnyH_take (i := 33) (oi := { dst := some 71, op := Op.move (Operand.tmp 70), type := 4, pos := "law.go:55", after := #[{ on := 32, ground := Ground.data }, { on := 30, ground := Ground.chain }], guard := none }) (v := ?_) rfl (by kernel_rfl) (by kernel_rfl) (by kernel_rfl) (fun _ _ _ h => h) (Or.inl ⟨by rfl, ?_⟩) (by assumption) ?_
  rotate_left
  · intro w_ hSw; (try dsimp only at hSw); go_simp; (try with_reducible rfl)
  (try simp only [Act.put, List.setIfInBounds_toArray, List.set_cons_zero, List.set_cons_succ])
  refine wpAnyH_take (i := 34) (oi := { dst := some 72, op := Op.move (Operand.tmp 0), type := 22, pos := "law.go:55", after := #[{ on := 33, ground := Ground.guard }], guard := some (33, true) }) (v := ?_) rfl (by kernel_rfl) (by kernel_rfl) (by kernel_rfl) (fun _ _ _ h => h) (Or.inl ⟨by rfl, ?_⟩) (by assumption) ?_
  rotate_left
  · intro w_ hSw; (try dsimp only at hSw); go_simp; (try with_reducible rfl)
  (try simp only [Act.put, List.setIfInBounds_toArray, List.set_cons_zero, List.set_cons_succ])
  refine wpAnyH_take (i := 36) (oi := { dst := some 74, op := Op.move (Operand.tmp 16), type := 29, pos := "law.go:55", after := #[{ on := 33, ground := Ground.guard }], guard := some (33, true) }) (v := ?_) rfl (by kernel_rfl) (by kernel_rfl) (by kernel_rfl) (fun _ _ _ h => h) (Or.inl ⟨by rfl, ?_⟩) (by assumption) ?_
  rotate_left
  · intro w_ hSw; (try dsimp only at hSw); go_simp; (try with_reducible rfl)
  (try simp only [Act.put, List.setIfInBounds_toArray, List.set_cons_zero, List.set_cons_succ])
  refine wpAnyH_ready (rs := [35]) (by kernel_rfl) (by simp) ?_
  refine AllReadyH.cons rfl (fun K hK => ?_) AllReadyH.nil
  go_simp
  go_at_call 18
  (with_reducible refine (Writes_c l NL nw _ _ HNL.out HW.out _ HO.out).mono ?_)
  rintro e w25 ⟨rfl, hb25⟩
  replace X := hide (X.out.below hb25)
  replace HO := hide (HO.out.below hb25)
  replace H1 := hide (H1.out.below hb25)
  replace H2 := hide (H2.out.below hb25)
  replace H3 := hide (H3.out.below hb25)
  replace Y := hide (Y.out.below hb25)
  replace hB := bcall hB hb25
  clear hb25
  (try go_simp)
  refine hK.out _ _ (by obtain ⟨a0, a1, a2, a3⟩ := X.out.all; obtain ⟨b0, b1, b2, b3⟩ := Y.out.all; exact ⟨a0, a1, a2, a3, b0, b1, b2, b3⟩) (fun hHeld => ?_)
  (try simp only [Act.put, List.setIfInBounds_toArray, List.set_cons_zero, List.set_cons_succ])
  refine wpAnyH_ready (rs := [37]) (by kernel_rfl) (by simp) ?_
  refine AllReadyH.cons rfl (fun K hK => ?_) AllReadyH.nil
  go_simp
  go_at_call 19
  (with_reducible refine (rWrites_c l NL nw _ _ HNL.out HW.out _ H3.out).mono ?_)
  rintro e w26 ⟨rfl, hb26⟩
  replace X := hide (X.out.below hb26)
  replace HO := hide (HO.out.below hb26)
  replace H1 := hide (H1.out.below hb26)
  replace H2 := hide (H2.out.below hb26)
  replace H3 := hide (H3.out.below hb26)
  replace Y := hide (Y.out.below hb26)
  replace hB := bcall hB hb26
  clear hb26
  (try go_simp)
  refine hK.out _ _ (by obtain ⟨a0, a1, a2, a3⟩ := X.out.all; obtain ⟨b0, b1, b2, b3⟩ := Y.out.all; exact ⟨a0, a1, a2, a3, b0, b1, b2, b3⟩) (fun hHeld => ?_)
  (try simp only [Act.put, List.setIfInBounds_toArray, List.set_cons_zero, List.set_cons_succ])
  refine wpAnyH_take (i := 38) (oi := { dst := some 76, op := Op.binOp BinOp.eql 3 (Operand.tmp 73) (Operand.tmp 75) 3, type := 4, pos := "law.go:55", after := #[{ on := 35, ground := Ground.data }, { on := 37, ground := Ground.data }, { on := 33, ground := Ground.guard }], guard := some (33, true) }) (v := ?_) rfl (by kernel_rfl) (by kernel_rfl) (by kernel_rfl) (fun _ _ _ h => h) (Or.inl ⟨by rfl, ?_⟩) (by assumption) ?_
  rotate_left
  · intro w_ hSw; (try dsimp only at hSw); go_simp; (try with_reducible rfl)
  (try simp only [Act.put, List.setIfInBounds_toArray, List.set_cons_zero, List.set_cons_succ])
  refine wpAnyH_take (i := 39) (oi := { dst := some 77, op := Op.pick (Operand.tmp 71) (Operand.tmp 76) (Operand.const (Value.bool false)), type := 4, pos := "law.go:55", after := #[{ on := 33, ground := Ground.data }, { on := 38, ground := Ground.data }], guard := none }) (v := ?_) rfl (by kernel_rfl) (by kernel_rfl) (by kernel_rfl) (fun _ _ _ h => h) (Or.inl ⟨by rfl, ?_⟩) (by assumption) ?_
  rotate_left
  · intro w_ hSw; (try dsimp only at hSw); go_simp; (try with_reducible rfl)
  (try simp only [Act.put, List.setIfInBounds_toArray, List.set_cons_zero, List.set_cons_succ])
  refine wpAnyH_take (i := 40) (oi := { dst := some 78, op := Op.move (Operand.tmp 77), type := 4, pos := "law.go:55", after := #[{ on := 39, ground := Ground.data }, { on := 37, ground := Ground.chain }], guard := none }) (v := ?_) rfl (by kernel_rfl) (by kernel_rfl) (by kernel_rfl) (fun _ _ _ h => h) (Or.inl ⟨by rfl, ?_⟩) (by assumption) ?_
  rotate_left
  · intro w_ hSw; (try dsimp only at hSw); go_simp; (try with_reducible rfl)
  (try simp only [Act.put, List.setIfInBounds_toArray, List.set_cons_zero, List.set_cons_succ])
  refine wpAnyH_take (i := 41) (oi := { dst := some 79, op := Op.load 24 (Operand.tmp 6), type := 24, pos := "law.go:55", after := #[{ on := 40, ground := Ground.guard }], guard := some (40, true) }) (v := ?_) rfl (by kernel_rfl) (by kernel_rfl) (by kernel_rfl) (fun _ _ _ h => h) (Or.inl ⟨by rfl, ?_⟩) (by assumption) ?_
  rotate_left
  · intro w_ hSw; (try dsimp only at hSw); go_simp; (try with_reducible rfl)
  (try simp only [Act.put, List.setIfInBounds_toArray, List.set_cons_zero, List.set_cons_succ])
  refine wpAnyH_take (i := 43) (oi := { dst := some 81, op := Op.load 33 (Operand.tmp 17), type := 33, pos := "law.go:55", after := #[{ on := 40, ground := Ground.guard }], guard := some (40, true) }) (v := ?_) rfl (by kernel_rfl) (by kernel_rfl) (by kernel_rfl) (fun _ _ _ h => h) (Or.inl ⟨by rfl, ?_⟩) (by assumption) ?_
  rotate_left
  · intro w_ hSw; (try dsimp only at hSw); go_simp; (try with_reducible rfl)
  (try simp only [Act.put, List.setIfInBounds_toArray, List.set_cons_zero, List.set_cons_succ])
  refine wpAnyH_ready (rs := [42]) (by kernel_rfl) (by simp) ?_
  refine AllReadyH.cons rfl (fun K hK => ?_) AllReadyH.nil
  go_simp
  go_at_call 20
  (with_reducible refine (Text_s ok oR oA oS PT HTX.out _).mono ?_)
  rintro e w27 ⟨rfl, hb27⟩
  replace X := hide (X.out.below hb27)
  replace HO := hide (HO.out.below hb27)
  replace H1 := hide (H1.out.below hb27)
  replace H2 := hide (H2.out.below hb27)
  replace H3 := hide (H3.out.below hb27)
  replace Y := hide (Y.out.below hb27)
  replace hB := bcall hB hb27
  clear hb27
  (try go_simp)
  refine hK.out _ _ (by obtain ⟨a0, a1, a2, a3⟩ := X.out.all; obtain ⟨b0, b1, b2, b3⟩ := Y.out.all; exact ⟨a0, a1, a2, a3, b0, b1, b2, b3⟩) (fun hHeld => ?_)
  (try simp only [Act.put, List.setIfInBounds_toArray, List.set_cons_zero, List.set_cons_succ])
  refine wpAnyH_ready (rs := [44]) (by kernel_rfl) (by simp) ?_
  refine AllReadyH.cons rfl (fun K hK => ?_) AllReadyH.nil
  go_simp
  go_at_call 21
  (with_reducible refine (rText_s ok oR oA oS PT HTX.out _).mono ?_)
  rintro e w28 ⟨rfl, hb28⟩
  replace X := hide (X.out.below hb28)
  replace HO := hide (HO.out.below hb28)
  replace H1 := hide (H1.out.below hb28)
  replace H2 := hide (H2.out.below hb28)
  replace H3 := hide (H3.out.below hb28)
  replace Y := hide (Y.out.below hb28)
  replace hB := bcall hB hb28
  clear hb28
  (try go_simp)
  refine hK.out _ _ (by obtain ⟨a0, a1, a2, a3⟩ := X.out.all; obtain ⟨b0, b1, b2, b3⟩ := Y.out.all; exact ⟨a0, a1, a2, a3, b0, b1, b2, b3⟩) (fun hHeld => ?_)
  (try simp only [Act.put, List.setIfInBounds_toArray, List.set_cons_zero, List.set_cons_succ])
  refine wpAnyH_take (i := 45) (oi := { dst := some 83, op := Op.binOp BinOp.eql 9 (Operand.tmp 80) (Operand.tmp 82) 9, type := 4, pos := "law.go:55", after := #[{ on := 42, ground := Ground.data }, { on := 44, ground := Ground.data }, { on := 40, ground := Ground.guard }], guard := some (40, true) }) (v := ?_) rfl (by kernel_rfl) (by kernel_rfl) (by kernel_rfl) (fun _ _ _ h => h) (Or.inl ⟨by rfl, ?_⟩) (by assumption) ?_
  rotate_left
  · intro w_ hSw; (try dsimp only at hSw); go_simp; (try with_reducible rfl)
  (try simp only [Act.put, List.setIfInBounds_toArray, List.set_cons_zero, List.set_cons_succ])
  refine wpAnyH_take (i := 46) (oi := { dst := some 84, op := Op.pick (Operand.tmp 78) (Operand.tmp 83) (Operand.const (Value.bool false)), type := 4, pos := "law.go:55", after := #[{ on := 40, ground := Ground.data }, { on := 45, ground := Ground.data }], guard := none }) (v := ?_) rfl (by kernel_rfl) (by kernel_rfl) (by kernel_rfl) (fun _ _ _ h => h) (Or.inl ⟨by rfl, ?_⟩) (by assumption) ?_
  rotate_left
  · intro w_ hSw; (try dsimp only at hSw); go_simp; (try with_reducible rfl)
  (try simp only [Act.put, List.setIfInBounds_toArray, List.set_cons_zero, List.set_cons_succ])
  refine wpAnyH_take (i := 47) (oi := { dst := some 85, op := Op.move (Operand.tmp 84), type := 4, pos := "law.go:55", after := #[{ on := 46, ground := Ground.data }, { on := 44, ground := Ground.chain }], guard := none }) (v := ?_) rfl (by kernel_rfl) (by kernel_rfl) (by kernel_rfl) (fun _ _ _ h => h) (Or.inl ⟨by rfl, ?_⟩) (by assumption) ?_
  rotate_left
  · intro w_ hSw; (try dsimp only at hSw); go_simp; (try with_reducible rfl)
  (try simp only [Act.put, List.setIfInBounds_toArray, List.set_cons_zero, List.set_cons_succ])
  refine wpAnyH_take (i := 48) (oi := { dst := some 86, op := Op.move (Operand.tmp 0), type := 22, pos := "law.go:55", after := #[{ on := 47, ground := Ground.guard }], guard := some (47, true) }) (v := ?_) rfl (by kernel_rfl) (by kernel_rfl) (by kernel_rfl) (fun _ _ _ h => h) (Or.inl ⟨by rfl, ?_⟩) (by assumption) ?_
  rotate_left
  · intro w_ hSw; (try dsimp only at hSw); go_simp; (try with_reducible rfl)
  (try simp only [Act.put, List.setIfInBounds_toArray, List.set_cons_zero, List.set_cons_succ])
  refine wpAnyH_take (i := 50) (oi := { dst := some 88, op := Op.move (Operand.tmp 16), type := 29, pos := "law.go:55", after := #[{ on := 47, ground := Ground.guard }], guard := some (47, true) }) (v := ?_) rfl (by kernel_rfl) (by kernel_rfl) (by kernel_rfl) (fun _ _ _ h => h) (Or.inl ⟨by rfl, ?_⟩) (by assumption) ?_
  rotate_left
  · intro w_ hSw; (try dsimp only at hSw); go_simp; (try with_reducible rfl)
  (try simp only [Act.put, List.setIfInBounds_toArray, List.set_cons_zero, List.set_cons_succ])
  refine wpAnyH_ready (rs := [49]) (by kernel_rfl) (by simp) ?_
  refine AllReadyH.cons rfl (fun K hK => ?_) AllReadyH.nil
  go_simp
  go_at_call 22
  (with_reducible refine (Print_s l PP NL _ _ HNL.out HPR.out _ HO.out (by omega)).mono ?_)
  rintro e w29 ⟨rfl, hb29⟩
  replace X := hide (X.out.below hb29)
  replace HO := hide (HO.out.below hb29)
  replace H1 := hide (H1.out.below hb29)
  replace H2 := hide (H2.out.below hb29)
  replace H3 := hide (H3.out.below hb29)
  replace Y := hide (Y.out.below hb29)
  replace hB := bcall hB hb29
  clear hb29
  (try go_simp)
  refine hK.out _ _ (by obtain ⟨a0, a1, a2, a3⟩ := X.out.all; obtain ⟨b0, b1, b2, b3⟩ := Y.out.all; exact ⟨a0, a1, a2, a3, b0, b1, b2, b3⟩) (fun hHeld => ?_)
  (try simp only [Act.put, List.setIfInBounds_toArray, List.set_cons_zero, List.set_cons_succ])
  refine wpAnyH_ready (rs := [51]) (by kernel_rfl) (by simp) ?_
  refine AllReadyH.cons rfl (fun K hK => ?_) AllReadyH.nil
  go_simp
  go_at_call 23
  (with_reducible refine (rPrint_s l PP NL _ _ HNL.out HPR.out _ H3.out (by omega)).mono ?_)
  rintro e w30 ⟨rfl, hb30⟩
  replace X := hide (X.out.below hb30)
  replace HO := hide (HO.out.below hb30)
  replace H1 := hide (H1.out.below hb30)
  replace H2 := hide (H2.out.below hb30)
  replace H3 := hide (H3.out.below hb30)
  replace Y := hide (Y.out.below hb30)
  replace hB := bcall hB hb30
  clear hb30
  (try go_simp)
  refine hK.out _ _ (by obtain ⟨a0, a1, a2, a3⟩ := X.out.all; obtain ⟨b0, b1, b2, b3⟩ := Y.out.all; exact ⟨a0, a1, a2, a3, b0, b1, b2, b3⟩) (fun hHeld => ?_)
  (try simp only [Act.put, List.setIfInBounds_toArray, List.set_cons_zero, List.set_cons_succ])
  refine wpAnyH_take (i := 52) (oi := { dst := some 90, op := Op.binOp BinOp.eql 9 (Operand.tmp 87) (Operand.tmp 89) 9, type := 4, pos := "law.go:55", after := #[{ on := 49, ground := Ground.data }, { on := 51, ground := Ground.data }, { on := 47, ground := Ground.guard }], guard := some (47, true) }) (v := ?_) rfl (by kernel_rfl) (by kernel_rfl) (by kernel_rfl) (fun _ _ _ h => h) (Or.inl ⟨by rfl, ?_⟩) (by assumption) ?_
  rotate_left
  · intro w_ hSw; (try dsimp only at hSw); go_simp; (try with_reducible rfl)
  (try simp only [Act.put, List.setIfInBounds_toArray, List.set_cons_zero, List.set_cons_succ])
  refine wpAnyH_take (i := 53) (oi := { dst := some 91, op := Op.pick (Operand.tmp 85) (Operand.tmp 90) (Operand.const (Value.bool false)), type := 4, pos := "law.go:55", after := #[{ on := 47, ground := Ground.data }, { on := 52, ground := Ground.data }], guard := none }) (v := ?_) rfl (by kernel_rfl) (by kernel_rfl) (by kernel_rfl) (fun _ _ _ h => h) (Or.inl ⟨by rfl, ?_⟩) (by assumption) ?_
  rotate_left
  · intro w_ hSw; (try dsimp only at hSw); go_simp; (try with_reducible rfl)
  (try simp only [Act.put, List.setIfInBounds_toArray, List.set_cons_zero, List.set_cons_succ])
  refine wpAnyH_take (i := 54) (oi := { dst := some 10, op := Op.assign (Operand.tmp 91), type := 4, pos := "law.go:55", after := #[{ on := 53, ground := Ground.data }, { on := 51, ground := Ground.chain }, { on := 0, ground := Ground.phase }, { on := 1, ground := Ground.phase }, { on := 2, ground := Ground.phase }, { on := 3, ground := Ground.phase }, { on := 4, ground := Ground.phase }, { on := 5, ground := Ground.phase }, { on := 6, ground := Ground.phase }, { on := 7, ground := Ground.phase }, { on := 8, ground := Ground.phase }, { on := 9, ground := Ground.phase }, { on := 10, ground := Ground.phase }, { on := 11, ground := Ground.phase }, { on := 12, ground := Ground.phase }, { on := 13, ground := Ground.phase }, { on := 14, ground := Ground.phase }, { on := 15, ground := Ground.phase }, { on := 16, ground := Ground.phase }, { on := 17, ground := Ground.phase }, { on := 18, ground := Ground.phase }, { on := 19, ground := Ground.phase }, { on := 20, ground := Ground.phase }, { on := 21, ground := Ground.phase }, { on := 22, ground := Ground.phase }, { on := 23, ground := Ground.phase }, { on := 24, ground := Ground.phase }, { on := 25, ground := Ground.phase }, { on := 26, ground := Ground.phase }, { on := 27, ground := Ground.phase }, { on := 28, ground := Ground.phase }, { on := 29, ground := Ground.phase }, { on := 30, ground := Ground.phase }, { on := 31, ground := Ground.phase }, { on := 32, ground := Ground.phase }, { on := 33, ground := Ground.phase }, { on := 34, ground := Ground.phase }, { on := 35, ground := Ground.phase }, { on := 36, ground := Ground.phase }, { on := 37, ground := Ground.phase }, { on := 38, ground := Ground.phase }, { on := 39, ground := Ground.phase }, { on := 40, ground := Ground.phase }, { on := 41, ground := Ground.phase }, { on := 42, ground := Ground.phase }, { on := 43, ground := Ground.phase }, { on := 44, ground := Ground.phase }, { on := 45, ground := Ground.phase }, { on := 46, ground := Ground.phase }, { on := 47, ground := Ground.phase }, { on := 48, ground := Ground.phase }, { on := 49, ground := Ground.phase }, { on := 50, ground := Ground.phase }, { on := 51, ground := Ground.phase }, { on := 52, ground := Ground.phase }, { on := 53, ground := Ground.phase }], guard := none }) (v := ?_) rfl (by kernel_rfl) (by kernel_rfl) (by kernel_rfl) (fun _ _ _ h => h) (Or.inl ⟨by rfl, ?_⟩) (by assumption) ?_
  rotate_left
  · intro w_ hSw; (try dsimp only at hSw); go_simp; (try with_reducible rfl)
  (try simp only [Act.put, List.setIfInBounds_toArray, List.set_cons_zero, List.set_cons_succ])
  refine wpAnyH_done (by kernel_rfl) ?_ _
  go_wp2
  go_ret
  exact ⟨rfl, hB⟩

theorem laid_met (os : Os) : laidMetH Tryd.prog Rows.codeTellsUptoRow.laid ((World.laidAll Tryd.prog os Rows.codeTellsUptoRow.laid).forCall (fun _ _ => 0) ⟨#[], #[.slice none 0 0, .agg #[.int .i64 0, .int .i64 0, .int .i64 0, .int .i64 0], .int .i64 0, .int .i64 0, .string .empty], []⟩).memory := by
  rw [MakeChecks.laidMetH_plain _ _ _ (by kernel_rfl)]; exact laidMet_laidAll _ (by kernel_rfl) (by kernel_rfl)
theorem reads (os : Os) {H : Type} (enc : TypeId × Value → H) : ∃ places, DataW.whole enc Tryd.prog ((World.laidAll Tryd.prog os Rows.codeTellsUptoRow.laid).forCall (fun _ _ => 0) ⟨#[], #[.slice none 0 0, .agg #[.int .i64 0, .int .i64 0, .int .i64 0, .int .i64 0], .int .i64 0, .int .i64 0, .string .empty], []⟩).memory Tryd.f3.params.toList Rows.codeTellsSpec.vars false (#[.slice none 0 0, .agg #[.int .i64 0, .int .i64 0, .int .i64 0, .int .i64 0], .int .i64 0, .int .i64 0, .string .empty] : Array Value).toList 8 = some ([.nil, .agg [.lit (.int .i64 0), .lit (.int .i64 0), .lit (.int .i64 0), .lit (.int .i64 0)], .lit (.int .i64 0), .lit (.int .i64 0), .lit (.string [])], [], places) :=
  ⟨[], by kernel_rfl⟩
theorem okargs (os : Os) : Input.okWideB Tryd.prog ((World.laidAll Tryd.prog os Rows.codeTellsUptoRow.laid).forCall (fun _ _ => 0) ⟨#[], #[.slice none 0 0, .agg #[.int .i64 0, .int .i64 0, .int .i64 0, .int .i64 0], .int .i64 0, .int .i64 0, .string .empty], []⟩) 3 ⟨#[], #[.slice none 0 0, .agg #[.int .i64 0, .int .i64 0, .int .i64 0, .int .i64 0], .int .i64 0, .int .i64 0, .string .empty], []⟩ = true := by kernel_rfl
set_option maxRecDepth 100000 in
theorem lifted (os : Os) (started : os.Started) (H : Type) (enc : TypeId × Value → H) (F : Stop.Interp) :
    ReturnsInHanded {} Tryd.checked os 3 .any ((Rows.OpenSpec.upto Rows.codeTellsSpec).preRow enc Tryd.prog Tryd.f3 Rows.codeTellsUptoRow.domain false Rows.codeTellsUptoRow.laid) (((Rows.OpenSpec.upto Rows.codeTellsSpec).at F).post enc Tryd.prog Tryd.f3 false true false false) := by
  obtain ⟨places, hx⟩ := reads os enc
  refine returnsInHanded_of_row (C := Tryd.checked) (s := Rows.OpenSpec.upto Rows.codeTellsSpec) ownL started (by kernel_rfl) Tryd.func3
    ⟨World.laidAll Tryd.prog os Rows.codeTellsUptoRow.laid, fun _ _ => 0, ⟨#[], #[.slice none 0 0, .agg #[.int .i64 0, .int .i64 0, .int .i64 0, .int .i64 0], .int .i64 0, .int .i64 0, .string .empty], []⟩, World.laidAll_os _ _ _, World.shaped_of_ZipB (by kernel_rfl) (by kernel_rfl), (Input.okWide_of_okWideB (base := 0) (okargs os)).1, (Input.okWide_of_okWideB (okargs os)).2,
      OpenSpec.preRow_of_cond 8 hx (by kernel_rfl) (fun k hk => by cases hk; kernel_rfl) (by kernel_rfl) (laid_met os), by
        simp only [Assume.holds]
        exact ⟨by simp, by simp, by simp, by simp, by simp⟩⟩ ?_
  intro W base args ds gs before hval hW _ hcond hsz0 hL _ _
  have hk0 := hcond _ rfl
  have hW' := hW
  obtain ⟨p, q, hA0, hV, rfl, hfz, hnd⟩ := hW
  have hA : DataW.TrodAll enc Tryd.prog W 0 (fun _ => true) true Tryd.f3.params.toList args.toList ds p := hA0
  rw [Tryd.params3] at hA hval
  obtain ⟨v0, vs0, d0, ds0, p0, q0, hargs, rfl, rfl, h0, r0⟩ := trodAll_cons hA
  obtain ⟨v1, vs1, d1, ds1, p1, q1, rfl, rfl, rfl, h1, r1⟩ := trodAll_cons r0
  obtain ⟨v2, vs2, d2, ds2, p2, q2, rfl, rfl, rfl, h2, r2⟩ := trodAll_cons r1
  obtain ⟨v3, vs3, d3, ds3, p3, q3, rfl, rfl, rfl, h3, r3⟩ := trodAll_cons r2
  obtain ⟨v4, vs4, d4, ds4, p4, q4, rfl, rfl, rfl, h4, r4⟩ := trodAll_cons r3
  obtain ⟨rfl, rfl, rfl⟩ := trodAll_nil r4
  obtain rfl : args = #[v0, v1, v2, v3, v4] := by cases args; simp_all
  obtain ⟨rfl, rfl⟩ := trodVars_none hV
  obtain ⟨l0, hl0, hq0, hd0⟩ := open_cops (hval 0 22 v0 rfl rfl) h0
  obtain ⟨k1, t1, a1, b1, rfl, hi1⟩ := open_cop (hval 1 24 v1 rfl rfl) h1
  obtain ⟨a2, rfl, rfl, rfl, w2⟩ := open_int Tryd.underlying3 (hval 2 3 v2 rfl rfl) h2
  have hx2 : -9223372036854775808 ≤ a2 ∧ a2 ≤ 9223372036854775807 := by simpa [Lit.wf, IntKind.min, IntKind.max, IntKind.signed, IntKind.bits] using w2
  obtain ⟨a3, rfl, rfl, rfl, w3⟩ := open_int Tryd.underlying3 (hval 3 3 v3 rfl rfl) h3
  have hx3 : -9223372036854775808 ≤ a3 ∧ a3 ≤ 9223372036854775807 := by simpa [Lit.wf, IntKind.min, IntKind.max, IntKind.signed, IntKind.bits] using w3
  obtain ⟨s4, rfl, rfl, rfl, hs4⟩ := Go.ChangeMaps.open_string Tryd.underlying9 (hval 4 9 v4 rfl rfl) h4
  have hk : Rows.uptoBulkAll ([d0, d1, .lit (.int .i64 a2), .lit (.int .i64 a3), .lit (.string s4.data.toList)] : List (DataW H)) ≤ 1048576 := of_decide_eq_true hk0
  have hsz : (DataW.weightsEach Tryd.prog [22, 24, 3, 3, 9] ([d0, d1, .lit (.int .i64 a2), .lit (.int .i64 a3), .lit (.string s4.data.toList)] : List (DataW H))).all (· ≤ reachBytes) = true := hsz0
  have e0 : l0.length + 1 ≤ 1048576 := by have h1 := slice_bulk hd0; have h2 := bulk_mem hk 0 rfl; omega
  have e4 : s4.size + 1 ≤ 1048576 := by have h1 : s4.data.toList.length = s4.size := (by rw [Array.length_toList]; rfl); have h2 := bulk_mem hk 4 rfl; simp only [Rows.uptoBulk] at h2; omega
  have hE := trivial
  refine (walk v0 l0 k1 t1 a1 b1 a2 a3 s4 (by omega) (by omega) W hl0).mono fun e W' ⟨he, hg⟩ => ?_
  subst he
  exact ⟨_, rfl, law_post laidOutL (by kernel_rfl) rfl Tryd.underlying4 rfl ⟨rfl, rfl, rfl⟩ hW' hg⟩
theorem row_holds : Rows.CodeTellsUptoSaid :=
  OpenClaim.holds_of_cond 3 Tryd.f3 rfl rfl rfl rfl rfl rfl rfl ⟨rfl, rfl, rfl, rfl, rfl⟩ rfl rfl rfl rfl rfl (by kernel_rfl) Tryd.func3 (by kernel_rfl)
    (of_decide_eq_true (by kernel_rfl)) (by unfold Func.isWrapper; first | (rw [if_pos (by decide +kernel)]; kernel_rfl) | (rw [if_neg (by decide +kernel)]; exact ⟨rfl, rfl⟩))
    (fun os started H enc _ F => by rw [OpenClaim.pre_eq_preRow]; exact lifted os started H enc F)

/-- THE STATEMENT -/
theorem proved : Rows.CodeTellsUptoCardSaid :=
  Claim7.holds_tied_plain_at .later [] Rows.codeTellsUptoCard.laidKinds true Rows.codeTellsUptoCard.stood.harness Rows.codeTellsUptoCard.stood.looks
    row_holds (fun _ h => by cases h) (by kernel_rfl) (fun _ h => by cases h) codeTellsUpto_row_tie rfl ⟨rfl, rfl⟩ (by kernel_rfl) rfl
    (fun f fn hf hfn => by
      obtain rfl : f = 3 := Option.some.inj ((show Tryd.prog.funcNamed Rows.codeTellsUptoRow.func = some 3 by kernel_rfl).symm.trans hf) |>.symm
      obtain rfl : fn = Tryd.f3 := (Option.some.inj (Tryd.func3.symm.trans hfn)).symm
      exact ⟨by kernel_rfl, fun j t ht => by
        rw [Tryd.params3] at ht
        have hm : t ∈ [22, 24, 3, 3, 9] := by simpa using Array.mem_of_getElem? ht
        have hall : ([22, 24, 3, 3, 9].all fun u => !Tryd.prog.wantsStandIn u) = true := by kernel_rfl
        exact (show Tryd.prog.wantsStandIn t = false by simpa using List.all_eq_true.1 hall t hm)⟩)
    (by kernel_rfl)
end Go.Proofs.YtffdgkofolomlaaDoor.lawCodeTells
