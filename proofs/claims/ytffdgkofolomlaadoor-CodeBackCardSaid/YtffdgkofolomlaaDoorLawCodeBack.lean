/- CodeBack: what is printed of right ops is parsed as them, if they are not too many. No condition. -/
import Derived.Test.YtffdgkofolomlaaDoorCodeSomeOpen
namespace Go.Proofs.YtffdgkofolomlaaDoor.lawCodeBack
open Go.RowKit Go.WideShapes Go.ChangeShapes Go.ChangeAt Go.Deep Go.Proofs Go.Proofs.YtffdgkofolomlaaDoor

theorem min_80 (n : Nat) : min (n : Int) 80 = ((min n 80 : Nat) : Int) := by omega
theorem some_all {l : List Int} (h : ∀ b ∈ l, 0 ≤ b ∧ b ≤ 255) : ∀ o ∈ l.map cSome, cRight o 4 4 = true := by
  intro o ho
  obtain ⟨b, hb, rfl⟩ := List.mem_map.1 ho
  exact some_rightI (h b hb)
theorem csome_c (v : Value) (l : List Int) (p : List Oq) (N : Nat) (hp : l.map cSome = p) (hN : p.length = N) (w : World) (hl : Bytes w v l) (hr : ∀ b ∈ l, 0 ≤ b ∧ b ≤ 255) (hlen : l.length ≤ 1000000) :
    Calls Tryd.prog 24 #[v] w fun e w' => ∃ A c, e = .returned (.slice A N c) ∧ (N ≤ c ∧ c ≤ 9223372036854775807) ∧ Oqs w' (.slice A N c) p ∧ Below w.heap.size w w' := by
  subst hp hN
  refine (csome_any v l w hl hr hlen).mono ?_
  rintro e w' ⟨r, rfl, ho, hb⟩
  have hS : Oqs w' r (l.map cSome) := Sl.of_own oq_len ho
  obtain ⟨A, c, rfl, h1, h2⟩ := own_form ho
  exact ⟨A, c, rfl, ⟨h1, by unfold maxLen at h2; omega⟩, hS, hb⟩
theorem bytes_take {w : World} {A : Option Addr} {n c : Nat} {l : List Int} (h : Bytes w (.slice A n c) l) (k : Nat) (hk : k ≤ l.length) : Bytes w (.slice A k c) (l.take k) := by
  obtain ⟨A', c', e, h1, h2, h3⟩ := h
  injection e with e1 e2 e3
  subst e1 e2 e3
  have hl : (l.take k).length = k := by rw [List.length_take]; omega
  refine ⟨_, _, by rw [hl], by omega, h2, fun h0 => ?_⟩
  obtain ⟨b, off, rfl, hb, hc⟩ := h3 (by omega)
  refine ⟨b, off, rfl, hb, fun i p hp j u hu => ?_⟩
  rw [List.getElem?_take] at hp
  split at hp
  · exact hc i p hp j u hu
  · cases hp
set_option maxRecDepth 100000 in
set_option maxHeartbeats 8000000 in
theorem walk (v : Value) (l : List Int) (w : World) (h : Bytes w v l) (hr : ∀ b ∈ l, 0 ≤ b ∧ b ≤ 255) : Calls Tryd.prog 4 #[v] w fun e w' => e = .returned (.bool true) ∧ Below w.heap.size w w' := by
  have HO := hide h
  have HR := hide hr
  obtain ⟨A, c, rfl, hm1, hm2, -⟩ := id h
  unfold maxLen at hm2
  clear h hr
  obtain ⟨K, hK⟩ : ∃ K, min l.length 80 = K := ⟨_, rfl⟩
  have hmin : min (l.length : Int) 80 = (K : Int) := by rw [← hK]; exact min_80 _
  have hK1 : K ≤ l.length := by omega
  have hK2 : K ≤ 80 := by omega
  have c0 : (0 : Int) ≤ K := by omega
  have c1 : (K : Int) ≤ c := by omega
  obtain ⟨p, hp⟩ : ∃ p, (l.take K).map cSome = p := ⟨_, rfl⟩
  have hpl : p.length = K := by rw [← hp, List.length_map, List.length_take]; omega
  have HPR := hide (show ∀ o ∈ p, cRight o 4 4 = true by rw [← hp]; exact some_all fun b hb => HR.out b (List.mem_of_mem_take hb))
  have HP := hide hp
  have HPL := hide hpl
  obtain ⟨T, hT⟩ : ∃ T, cPrint p = T := ⟨_, rfl⟩
  have HT := hide hT
  have HTL := hide (show T.length ≤ 9223372036854775807 by rw [← hT]; have := print_len p; omega)
  have HPP := hide (show cParse T = if 64 < p.length then ([], 3) else (p, 0) by rw [← hT]; exact parse_print HPR.out)
  clear hp hpl hT hK
  have hB : Below w.heap.size w w := Below.refl _ _
  go_enter Tryd.func4, Tryd.ntmps4
  go_wp2_with fail
  (with_reducible refine (examples_any _).mono ?_)
  rintro e w1 ⟨rfl, hb1⟩
  replace HO := hide (HO.out.below hb1)
  replace hB := bcall hB hb1
  have hs1 := hb1.size
  clear hb1
  go_wp2_with fail
  (with_reducible refine (csome_c _ (l.take K) p K HP.out HPL.out _ (bytes_take HO.out K hK1) (fun b hb => HR.out b (List.mem_of_mem_take hb)) (by rw [List.length_take]; omega)).mono ?_)
  rintro e w2 ⟨A1, c1_, rfl, ⟨p1, q1⟩, HL, hb2⟩
  replace HO := hide (HO.out.below hb2)
  replace hB := bcall hB hb2
  have hs2 := hb2.size
  clear hb2
  have HL := hide HL
  go_wp2_with fail
  (with_reducible refine (Print_c p T K _ _ HPL.out HT.out _ HL.out (by omega)).mono ?_)
  rintro e w3 ⟨rfl, hb3⟩
  replace HO := hide (HO.out.below hb3)
  replace HL := hide (HL.out.below hb3)
  replace hB := bcall hB hb3
  have hs3 := hb3.size
  clear hb3
  obtain ⟨s, hs⟩ : ∃ s : ByteArray, (⟨T.toArray⟩ : ByteArray) = s := ⟨_, rfl⟩
  have HS := hide (show s.data.toList = T by rw [← hs])
  have HSL := hide (show s.size ≤ 9223372036854775807 by rw [← ba_len s, HS.out]; exact HTL.out)
  rw [hs]
  clear hs
  by_cases h64 : 64 < K
  · have HQ := hide (show cParse T = ([], 3) by rw [HPP.out, HPL.out, if_pos h64])
    have h64i : (64 : Int) < (K : Int) := by omega
    go_wp2_with fail
    (with_reducible refine (Parse_c T [] 3 0 HQ.out rfl s HS.out HSL.out _).mono ?_)
    rintro e w4 ⟨A2, c2, rfl, ⟨p2, q2⟩, -, hb4⟩
    replace HL := hide (HL.out.below hb4)
    replace hB := bcall hB hb4
    have hs4 := hb4.size
    clear hb4
    go_wp2
    go_ret
    exact ⟨rfl, hB⟩
  · have HQ := hide (show cParse T = (p, 0) by rw [HPP.out, HPL.out, if_neg h64])
    have h64i : ¬ (64 : Int) < (K : Int) := by omega
    have hKK : ((K : Int) != (K : Int)) = false := by simp
    have HF := hide (show cFits p 4 4 = true by unfold cFits; rw [Bool.and_eq_true, List.all_eq_true]; exact ⟨HPR.out, decide_eq_true (by rw [HPL.out]; omega)⟩)
    go_wp2_with fail
    (with_reducible refine (Parse_c T p 0 K HQ.out HPL.out s HS.out HSL.out _).mono ?_)
    rintro e w4 ⟨A2, c2, rfl, ⟨p2, q2⟩, HM, hb4⟩
    replace HL := hide (HL.out.below hb4)
    replace hB := bcall hB hb4
    have hs4 := hb4.size
    clear hb4
    have HM := hide HM
    go_wp2_with fail
    (with_reducible refine (Fits_c p K 4 4 true _ _ HPL.out HF.out _ HL.out).mono ?_)
    rintro e w5 ⟨rfl, hb5⟩
    replace HL := hide (HL.out.below hb5)
    replace HM := hide (HM.out.below hb5)
    replace hB := bcall hB hb5
    have hs5 := hb5.size
    clear hb5
    go_wp2
    go_loopw [7] (fun iv wr => ∃ i : Nat, i ≤ K ∧ iv = .int .i64 i ∧ Hid (Oqs wr (.slice A1 K c1_) p) ∧ Hid (Oqs wr (.slice A2 K c2) p) ∧ Below w.heap.size w wr) (fun iv _ => K - (Go.RowKit.intOf iv).toNat)
    case atStart => exact ⟨0, Nat.zero_le _, rfl, HL, HM, hB⟩
    case round =>
      obtain ⟨i, hi, rfl, HL, HM, hB⟩ := hrel
      by_cases hlt : i < K
      · obtain ⟨⟨kk, r, a, z⟩, hd⟩ : ∃ d : Oq, p[i]? = some d := ⟨p[i]'(by rw [HPL.out]; exact hlt), List.getElem?_eq_getElem _⟩
        obtain ⟨g, off, rfl⟩ := oq_addr HL.out HPL.out (by omega)
        obtain ⟨g2, off2, rfl⟩ := oq_addr HM.out HPL.out (by omega)
        obtain ⟨d0, d1, d2, d3⟩ := oq_cells HL.out HPL.out hd rfl
        obtain ⟨x0, x1, x2, x3⟩ := oq_cells HM.out HPL.out hd rfl
        have hnp := neq_cop kk r a z kk r a z
        rw [decide_eq_true (rfl : (⟨kk, r, a, z⟩ : Oq) = ⟨kk, r, a, z⟩)] at hnp
        clear hd
        go_wp2
        refine wp_region_held_drew (S := fun w' => w'.cell? ⟨g, off + i * 4, none⟩ = some (.int .i64 kk) ∧ w'.cell? ⟨g, off + i * 4 + 1, none⟩ = some (.int .i64 r) ∧ w'.cell? ⟨g, off + i * 4 + 2, none⟩ = some (.int .i64 a) ∧ w'.cell? ⟨g, off + i * 4 + 3, none⟩ = some (.int .i64 z) ∧ w'.cell? ⟨g2, off2 + i * 4, none⟩ = some (.int .i64 kk) ∧ w'.cell? ⟨g2, off2 + i * 4 + 1, none⟩ = some (.int .i64 r) ∧ w'.cell? ⟨g2, off2 + i * 4 + 2, none⟩ = some (.int .i64 a) ∧ w'.cell? ⟨g2, off2 + i * 4 + 3, none⟩ = some (.int .i64 z)) (by kernel_rfl) ?_ (fun hHeld => ?_)
        · exact ⟨d0, d1, d2, d3, x0, x1, x2, x3⟩
        refine wpAnyH_take (i := 0) (oi := { dst := some 56, op := Op.move (Operand.tmp 5), type := 22, pos := "keeps.go:39", after := #[], guard := none }) (v := ?_) rfl (by kernel_rfl) (by kernel_rfl) (by kernel_rfl) (fun _ _ _ h => h) (Or.inl ⟨by rfl, ?_⟩) (by assumption) ?_
        rotate_left
        · intro w_ hSw; (try dsimp only at hSw); go_simp; (try with_reducible rfl)
        (try simp only [Act.put, List.setIfInBounds_toArray, List.set_cons_zero, List.set_cons_succ])
        refine wpAnyH_take (i := 1) (oi := { dst := some 57, op := Op.move (Operand.tmp 7), type := 3, pos := "keeps.go:39", after := #[], guard := none }) (v := ?_) rfl (by kernel_rfl) (by kernel_rfl) (by kernel_rfl) (fun _ _ _ h => h) (Or.inl ⟨by rfl, ?_⟩) (by assumption) ?_
        rotate_left
        · intro w_ hSw; (try dsimp only at hSw); go_simp; (try with_reducible rfl)
        (try simp only [Act.put, List.setIfInBounds_toArray, List.set_cons_zero, List.set_cons_succ])
        refine wpAnyH_take (i := 2) (oi := { dst := some 58, op := Op.indexAddr 22 (Operand.tmp 56) (Operand.tmp 57), type := 0, pos := "keeps.go:39", after := #[{ on := 0, ground := Ground.data }, { on := 1, ground := Ground.data }], guard := none }) (v := ?_) rfl (by kernel_rfl) (by kernel_rfl) (by kernel_rfl) (fun _ _ _ h => h) (Or.inl ⟨by rfl, ?_⟩) (by assumption) ?_
        rotate_left
        · intro w_ hSw; (try dsimp only at hSw); go_simp; (try with_reducible rfl)
        (try simp only [Act.put, List.setIfInBounds_toArray, List.set_cons_zero, List.set_cons_succ])
        refine wpAnyH_take (i := 3) (oi := { dst := some 59, op := Op.load 24 (Operand.tmp 58), type := 24, pos := "keeps.go:39", after := #[{ on := 2, ground := Ground.data }], guard := none }) (v := ?_) rfl (by kernel_rfl) (by kernel_rfl) (by kernel_rfl) (fun _ _ _ h => h) (Or.inl ⟨by rfl, ?_⟩) (by assumption) ?_
        rotate_left
        · intro w_ hSw; (try dsimp only at hSw); go_simp; (try with_reducible rfl)
        (try simp only [Act.put, List.setIfInBounds_toArray, List.set_cons_zero, List.set_cons_succ])
        refine wpAnyH_take (i := 4) (oi := { dst := some 60, op := Op.move (Operand.tmp 4), type := 22, pos := "keeps.go:39", after := #[], guard := none }) (v := ?_) rfl (by kernel_rfl) (by kernel_rfl) (by kernel_rfl) (fun _ _ _ h => h) (Or.inl ⟨by rfl, ?_⟩) (by assumption) ?_
        rotate_left
        · intro w_ hSw; (try dsimp only at hSw); go_simp; (try with_reducible rfl)
        (try simp only [Act.put, List.setIfInBounds_toArray, List.set_cons_zero, List.set_cons_succ])
        refine wpAnyH_take (i := 5) (oi := { dst := some 61, op := Op.move (Operand.tmp 7), type := 3, pos := "keeps.go:39", after := #[], guard := none }) (v := ?_) rfl (by kernel_rfl) (by kernel_rfl) (by kernel_rfl) (fun _ _ _ h => h) (Or.inl ⟨by rfl, ?_⟩) (by assumption) ?_
        rotate_left
        · intro w_ hSw; (try dsimp only at hSw); go_simp; (try with_reducible rfl)
        (try simp only [Act.put, List.setIfInBounds_toArray, List.set_cons_zero, List.set_cons_succ])
        refine wpAnyH_take (i := 6) (oi := { dst := some 62, op := Op.indexAddr 22 (Operand.tmp 60) (Operand.tmp 61), type := 0, pos := "keeps.go:39", after := #[{ on := 4, ground := Ground.data }, { on := 5, ground := Ground.data }], guard := none }) (v := ?_) rfl (by kernel_rfl) (by kernel_rfl) (by kernel_rfl) (fun _ _ _ h => h) (Or.inl ⟨by rfl, ?_⟩) (by assumption) ?_
        rotate_left
        · intro w_ hSw; (try dsimp only at hSw); go_simp; (try with_reducible rfl)
        (try simp only [Act.put, List.setIfInBounds_toArray, List.set_cons_zero, List.set_cons_succ])
        refine wpAnyH_take (i := 7) (oi := { dst := some 63, op := Op.load 24 (Operand.tmp 62), type := 24, pos := "keeps.go:39", after := #[{ on := 6, ground := Ground.data }], guard := none }) (v := ?_) rfl (by kernel_rfl) (by kernel_rfl) (by kernel_rfl) (fun _ _ _ h => h) (Or.inl ⟨by rfl, ?_⟩) (by assumption) ?_
        rotate_left
        · intro w_ hSw; (try dsimp only at hSw); go_simp; (try with_reducible rfl)
        (try simp only [Act.put, List.setIfInBounds_toArray, List.set_cons_zero, List.set_cons_succ])
        refine wpAnyH_take (i := 8) (oi := { dst := some 64, op := Op.binOp BinOp.neq 24 (Operand.tmp 59) (Operand.tmp 63) 24, type := 4, pos := "keeps.go:39", after := #[{ on := 3, ground := Ground.data }, { on := 7, ground := Ground.data }], guard := none }) (v := ?_) rfl (by kernel_rfl) (by kernel_rfl) (by kernel_rfl) (fun _ _ _ h => h) (Or.inl ⟨by rfl, ?_⟩) (by assumption) ?_
        rotate_left
        · intro w_ hSw; (try dsimp only at hSw); go_simp; (try with_reducible rfl)
        (try simp only [Act.put, List.setIfInBounds_toArray, List.set_cons_zero, List.set_cons_succ])
        refine wpAnyH_done (by kernel_rfl) ?_ _
        go_wp2
        go_roundw
        case rel => exact ⟨i + 1, by omega, by go_num, hide (oqs_drew HL.out), hide (oqs_drew HM.out), below_drew hB⟩
        case measure => simp [Go.RowKit.intOf]; omega
      · go_wp2
        go_ret
        exact ⟨rfl, hB⟩

set_option maxRecDepth 100000 in
theorem lifted (os : Os) (started : os.Started) (H : Type) (enc : TypeId × Value → H) :
    ReturnsInHanded {} Tryd.checked os 4 .any (fun w args => (Rows.codeBackSpec.pre enc Tryd.prog Tryd.f4 Rows.codeBackRow.domain false w args ∧ laidMetH Tryd.prog Rows.codeBackRow.laid w) ∧ sizedMet enc Tryd.prog Tryd.f4 (OpenSpec.ofChange Rows.codeBackSpec) false w args) (Rows.codeBackSpec.post enc Tryd.prog Tryd.f4 false true false false) := by
  refine handed_and_shaped (C := Tryd.checked) (X := fun w _ => laidMetH Tryd.prog Rows.codeBackRow.laid w) (fun _ _ _ hh h => h.of_heap hh) ownL started (by kernel_rfl) Tryd.func4
    (ChangeSpec.witness_shaped (enc := enc) (C := Tryd.checked) (os := os) (X := fun w _ => laidMetH Tryd.prog Rows.codeBackRow.laid w) false (World.laidAll Tryd.prog os Rows.codeBackRow.laid) #[.slice none 0 0] 8 (World.laidAll_os _ _ _)
      (World.shaped_of_ZipB (by kernel_rfl) (by kernel_rfl)) (by kernel_rfl) (by kernel_rfl) (by kernel_rfl)
      (by rw [MakeChecks.laidMetH_plain _ _ _ (by kernel_rfl)]; exact laidMet_laidAll _ (by kernel_rfl) (by kernel_rfl))) ?_
  intro W base args ds gs before hval0 hW hsz0 hL hsh
  have hval : ∀ (j : Nat) t v, Tryd.f4.params[j]? = some t → args[j]? = some v → Value.okWide Tryd.prog W .any base t v := hval0
  have hW' := hW
  obtain ⟨p, q, hA0, hV, rfl, hfz, hnd⟩ := hW
  have hA : DataW.TrodAll enc Tryd.prog W 0 (fun _ => true) true Tryd.f4.params.toList args.toList ds p := hA0
  rw [Tryd.params4] at hA hval
  obtain ⟨v0, vs0, d0, ds0, p0, q0, hargs, rfl, rfl, h0, r0⟩ := trodAll_cons hA
  obtain ⟨rfl, rfl, rfl⟩ := trodAll_nil r0
  obtain rfl : args = #[v0] := by cases args; simp_all
  obtain ⟨rfl, rfl⟩ := trodVars_none hV
  obtain ⟨l0, hl0, hq0, hd0⟩ := open_bytes (hval 0 46 v0 rfl rfl) h0
  have hsz : (DataW.weightsEach Tryd.prog [46] ([d0] : List (DataW H))).all (· ≤ reachBytes) = true := hsz0
  have e0 : l0.length * 1 ≤ 140737488351232 := slice_reach hsz 0 rfl rfl Tryd.underlying46 (by kernel_rfl) hd0
  have hE := trivial
  refine (walk v0 l0 W hl0 hq0).mono fun e W' ⟨he, hg⟩ => ?_
  subst he
  exact ⟨_, rfl, law_post laidOutL (by kernel_rfl) rfl Tryd.underlying4 rfl ⟨rfl, rfl, rfl⟩ hW' hg⟩
theorem row_holds : Rows.CodeBackSaid :=
  OpenClaim.holds_of_wide 4 Tryd.f4 rfl rfl rfl rfl rfl rfl rfl ⟨rfl, rfl, rfl, rfl, rfl⟩ rfl rfl rfl rfl rfl (by kernel_rfl) Tryd.func4 (by kernel_rfl)
    (of_decide_eq_true (by kernel_rfl)) (by unfold Func.isWrapper; first | (rw [if_pos (by decide +kernel)]; kernel_rfl) | (rw [if_neg (by decide +kernel)]; exact ⟨rfl, rfl⟩))
    (fun os started H enc _ => lifted os started H enc)

/-- THE STATEMENT -/
theorem proved : Rows.CodeBackCardSaid :=
  Claim7.holds_tied_plain_at .later [] Rows.codeBackCard.laidKinds true Rows.codeBackCard.stood.harness Rows.codeBackCard.stood.looks
    row_holds (fun _ h => by cases h) (by kernel_rfl) (fun _ h => by cases h) codeBack_row_tie rfl ⟨rfl, rfl⟩ (by kernel_rfl) rfl
    (fun f fn hf hfn => by
      obtain rfl : f = 4 := Option.some.inj ((show Tryd.prog.funcNamed Rows.codeBackRow.func = some 4 by kernel_rfl).symm.trans hf) |>.symm
      obtain rfl : fn = Tryd.f4 := (Option.some.inj (Tryd.func4.symm.trans hfn)).symm
      exact ⟨by kernel_rfl, fun j t ht => by
        rw [Tryd.params4] at ht
        have hm : t ∈ [46] := by simpa using Array.mem_of_getElem? ht
        have hall : ([46].all fun u => !Tryd.prog.wantsStandIn u) = true := by kernel_rfl
        exact (show Tryd.prog.wantsStandIn t = false by simpa using List.all_eq_true.1 hall t hm)⟩)
    (by kernel_rfl)
end Go.Proofs.YtffdgkofolomlaaDoor.lawCodeBack
