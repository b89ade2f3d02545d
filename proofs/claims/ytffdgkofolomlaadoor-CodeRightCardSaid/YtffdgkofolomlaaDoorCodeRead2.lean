/- Layer code: a text is cut at its first '='; read. -/
import Derived.Test.YtffdgkofolomlaaDoorCodeRead
namespace Go.Proofs.YtffdgkofolomlaaDoor
open Go.RowKit Go.Shelf Go.Proofs Go.Joins

theorem xt_take (s : ByteArray) (k : Nat) : (s.extract 0 k).data.toList = s.data.toList.take k := by
  rw [ByteArray.data_extract, Array.toList_extract]
  simp [List.extract]
theorem xt_drop (s : ByteArray) (k : Nat) : (s.extract k s.size).data.toList = s.data.toList.drop k := by
  rw [ByteArray.data_extract, Array.toList_extract, ← ba_len s]
  unfold List.extract
  exact List.take_of_length_le (by simp)
set_option maxHeartbeats 1000000 in
theorem cut_no (s : ByteArray) (w : World) (h : Go.Lib.indexByte s.data.toList 61 = -1) : Calls Tryd.prog 47 #[.string s, .string ⟨#[61]⟩] w fun e w' => e = .returned (.tuple #[.string s, .string ⟨#[]⟩, .bool false]) ∧ w' = w := by
  have HI := hide (Tryd.stringslite_Index_one s 61)
  have H := hide h
  clear h
  go_enter Tryd.func47, Tryd.ntmps47
  go_wp2_with fail
  refine (HI.out _).mono ?_
  rintro e _ ⟨rfl, rfl⟩
  rw [H.out]
  go_wp2
  go_ret3
  exact ⟨rfl, rfl⟩
set_option maxHeartbeats 1000000 in
theorem cut_at (s : ByteArray) (i : Nat) (w : World) (h : Go.Lib.indexByte s.data.toList 61 = (i : Int)) (hi : i < s.size) (hs : s.size ≤ 9223372036854775807) : Calls Tryd.prog 47 #[.string s, .string ⟨#[61]⟩] w fun e w' => e = .returned (.tuple #[.string (s.extract 0 i), .string (s.extract (i + 1) s.size), .bool true]) ∧ Below w.heap.size w w' := by
  have HI := hide (Tryd.stringslite_Index_one s 61)
  have H := hide h
  have c1 : (0 : Int) ≤ i := by omega
  have c2 : (i : Int) ≤ s.size := by omega
  have c3 : (0 : Int) ≤ i + 1 := by omega
  have c4 : (i : Int) + 1 ≤ s.size := by omega
  have c5 : ((i : Int) + 1).toNat = i + 1 := by omega
  have c6 : IntKind.i64.wrap ((i : Int) + 1) = (i : Int) + 1 := by simp [IntKind.wrap, IntKind.bits, IntKind.signed]; omega
  clear h hi hs
  go_enter Tryd.func47, Tryd.ntmps47
  go_wp2_with fail
  refine (HI.out _).mono ?_
  rintro e _ ⟨rfl, rfl⟩
  rw [H.out]
  go_wp2
  refine wp_region_held_drew (S := fun _ => True) (by kernel_rfl) ?_ (fun hHeld => ?_)
  · exact trivial
  refine wpAnyH_take (i := 0) (oi := { dst := some 13, op := Op.move (Operand.tmp 0), type := 9, pos := "strings.go:82", after := #[], guard := none }) (v := ?_) rfl (by kernel_rfl) (by kernel_rfl) (by kernel_rfl) (fun _ _ _ h => h) (Or.inl ⟨by rfl, ?_⟩) (by assumption) ?_
  rotate_left
  · intro w_ hSw; (try dsimp only at hSw); go_simp; (try with_reducible rfl)
  (try simp only [Act.put, List.setIfInBounds_toArray, List.set_cons_zero, List.set_cons_succ])
  refine wpAnyH_take (i := 1) (oi := { dst := some 14, op := Op.move (Operand.tmp 7), type := 3, pos := "strings.go:82", after := #[], guard := none }) (v := ?_) rfl (by kernel_rfl) (by kernel_rfl) (by kernel_rfl) (fun _ _ _ h => h) (Or.inl ⟨by rfl, ?_⟩) (by assumption) ?_
  rotate_left
  · intro w_ hSw; (try dsimp only at hSw); go_simp; (try with_reducible rfl)
  (try simp only [Act.put, List.setIfInBounds_toArray, List.set_cons_zero, List.set_cons_succ])
  refine wpAnyH_take (i := 2) (oi := { dst := some 15, op := Op.slice 9 (Operand.tmp 13) none (some (Operand.tmp 14)) none, type := 9, pos := "strings.go:82", after := #[{ on := 0, ground := Ground.data }, { on := 1, ground := Ground.data }], guard := none }) (v := ?_) rfl (by kernel_rfl) (by kernel_rfl) (by kernel_rfl) (fun _ _ _ h => h) (Or.inl ⟨by rfl, ?_⟩) (by assumption) ?_
  rotate_left
  · intro w_ hSw; (try dsimp only at hSw); go_simp; (try with_reducible rfl)
  (try simp only [Act.put, List.setIfInBounds_toArray, List.set_cons_zero, List.set_cons_succ])
  refine wpAnyH_take (i := 3) (oi := { dst := some 16, op := Op.move (Operand.tmp 0), type := 9, pos := "strings.go:82", after := #[], guard := none }) (v := ?_) rfl (by kernel_rfl) (by kernel_rfl) (by kernel_rfl) (fun _ _ _ h => h) (Or.inl ⟨by rfl, ?_⟩) (by assumption) ?_
  rotate_left
  · intro w_ hSw; (try dsimp only at hSw); go_simp; (try with_reducible rfl)
  (try simp only [Act.put, List.setIfInBounds_toArray, List.set_cons_zero, List.set_cons_succ])
  refine wpAnyH_take (i := 4) (oi := { dst := some 17, op := Op.move (Operand.tmp 7), type := 3, pos := "strings.go:82", after := #[], guard := none }) (v := ?_) rfl (by kernel_rfl) (by kernel_rfl) (by kernel_rfl) (fun _ _ _ h => h) (Or.inl ⟨by rfl, ?_⟩) (by assumption) ?_
  rotate_left
  · intro w_ hSw; (try dsimp only at hSw); go_simp; (try with_reducible rfl)
  (try simp only [Act.put, List.setIfInBounds_toArray, List.set_cons_zero, List.set_cons_succ])
  refine wpAnyH_take (i := 5) (oi := { dst := some 18, op := Op.move (Operand.tmp 1), type := 9, pos := "strings.go:82", after := #[], guard := none }) (v := ?_) rfl (by kernel_rfl) (by kernel_rfl) (by kernel_rfl) (fun _ _ _ h => h) (Or.inl ⟨by rfl, ?_⟩) (by assumption) ?_
  rotate_left
  · intro w_ hSw; (try dsimp only at hSw); go_simp; (try with_reducible rfl)
  (try simp only [Act.put, List.setIfInBounds_toArray, List.set_cons_zero, List.set_cons_succ])
  refine wpAnyH_take (i := 6) (oi := { dst := some 19, op := Op.call { callee := Callee.builtin Builtin.len, args := #[Operand.tmp 18], argTypes := #[9] }, type := 3, pos := "strings.go:82", after := #[{ on := 5, ground := Ground.data }], guard := none }) (v := ?_) rfl (by kernel_rfl) (by kernel_rfl) (by kernel_rfl) (fun _ _ _ h => h) (Or.inl ⟨by rfl, ?_⟩) (by assumption) ?_
  rotate_left
  · intro w_ hSw; (try dsimp only at hSw); go_simp; (try with_reducible rfl)
  (try simp only [Act.put, List.setIfInBounds_toArray, List.set_cons_zero, List.set_cons_succ])
  refine wpAnyH_take (i := 7) (oi := { dst := some 20, op := Op.binOp BinOp.add 3 (Operand.tmp 17) (Operand.tmp 19) 3, type := 3, pos := "strings.go:82", after := #[{ on := 4, ground := Ground.data }, { on := 6, ground := Ground.data }], guard := none }) (v := ?_) rfl (by kernel_rfl) (by kernel_rfl) (by kernel_rfl) (fun _ _ _ h => h) (Or.inl ⟨by rfl, ?_⟩) (by assumption) ?_
  rotate_left
  · intro w_ hSw; (try dsimp only at hSw); go_simp; (try with_reducible rfl)
  (try simp only [Act.put, List.setIfInBounds_toArray, List.set_cons_zero, List.set_cons_succ])
  refine wpAnyH_take (i := 8) (oi := { dst := some 21, op := Op.slice 9 (Operand.tmp 16) (some (Operand.tmp 20)) none none, type := 9, pos := "strings.go:82", after := #[{ on := 3, ground := Ground.data }, { on := 7, ground := Ground.data }], guard := none }) (v := ?_) rfl (by kernel_rfl) (by kernel_rfl) (by kernel_rfl) (fun _ _ _ h => h) (Or.inl ⟨by rfl, ?_⟩) (by assumption) ?_
  rotate_left
  · intro w_ hSw; (try dsimp only at hSw); go_simp; (try with_reducible rfl)
  (try simp only [Act.put, List.setIfInBounds_toArray, List.set_cons_zero, List.set_cons_succ])
  refine wpAnyH_take (i := 9) (oi := { dst := some 4, op := Op.assign (Operand.tmp 15), type := 9, pos := "strings.go:82", after := #[{ on := 2, ground := Ground.data }, { on := 0, ground := Ground.phase }, { on := 1, ground := Ground.phase }, { on := 2, ground := Ground.phase }, { on := 3, ground := Ground.textOnly Departure.lateStores }, { on := 4, ground := Ground.textOnly Departure.lateStores }, { on := 5, ground := Ground.textOnly Departure.lateStores }, { on := 6, ground := Ground.textOnly Departure.lateStoresUnsure }, { on := 7, ground := Ground.textOnly Departure.lateStores }, { on := 8, ground := Ground.textOnly Departure.lateStoresUnsure }], guard := none }) (v := ?_) rfl (by kernel_rfl) (by kernel_rfl) (by kernel_rfl) (fun _ _ _ h => h) (Or.inl ⟨by rfl, ?_⟩) (by assumption) ?_
  rotate_left
  · intro w_ hSw; (try dsimp only at hSw); go_simp; (try with_reducible rfl)
  (try simp only [Act.put, List.setIfInBounds_toArray, List.set_cons_zero, List.set_cons_succ])
  refine wpAnyH_take (i := 10) (oi := { dst := some 5, op := Op.assign (Operand.tmp 21), type := 9, pos := "strings.go:82", after := #[{ on := 8, ground := Ground.data }, { on := 9, ground := Ground.chain }, { on := 0, ground := Ground.phase }, { on := 1, ground := Ground.phase }, { on := 2, ground := Ground.phase }, { on := 3, ground := Ground.phase }, { on := 4, ground := Ground.phase }, { on := 5, ground := Ground.phase }, { on := 6, ground := Ground.phase }, { on := 7, ground := Ground.phase }, { on := 8, ground := Ground.phase }, { on := 9, ground := Ground.phase }], guard := none }) (v := ?_) rfl (by kernel_rfl) (by kernel_rfl) (by kernel_rfl) (fun _ _ _ h => h) (Or.inl ⟨by rfl, ?_⟩) (by assumption) ?_
  rotate_left
  · intro w_ hSw; (try dsimp only at hSw); go_simp; (try with_reducible rfl)
  (try simp only [Act.put, List.setIfInBounds_toArray, List.set_cons_zero, List.set_cons_succ])
  refine wpAnyH_take (i := 11) (oi := { dst := some 6, op := Op.assign (Operand.const (Value.bool true)), type := 4, pos := "strings.go:82", after := #[{ on := 10, ground := Ground.chain }, { on := 0, ground := Ground.phase }, { on := 1, ground := Ground.phase }, { on := 2, ground := Ground.phase }, { on := 3, ground := Ground.phase }, { on := 4, ground := Ground.phase }, { on := 5, ground := Ground.phase }, { on := 6, ground := Ground.phase }, { on := 7, ground := Ground.phase }, { on := 8, ground := Ground.phase }, { on := 9, ground := Ground.phase }, { on := 10, ground := Ground.phase }], guard := none }) (v := ?_) rfl (by kernel_rfl) (by kernel_rfl) (by kernel_rfl) (fun _ _ _ h => h) (Or.inl ⟨by rfl, ?_⟩) (by assumption) ?_
  rotate_left
  · intro w_ hSw; (try dsimp only at hSw); go_simp; (try with_reducible rfl)
  (try simp only [Act.put, List.setIfInBounds_toArray, List.set_cons_zero, List.set_cons_succ])
  refine wpAnyH_done (by kernel_rfl) ?_ _
  go_wp2
  go_ret3
  exact ⟨rfl, below_drew (Below.refl _ _)⟩
theorem Cut_any (s : ByteArray) (w : World) (hs : s.size ≤ 9223372036854775807) : Calls Tryd.prog 40 #[.string s, .string ⟨#[61]⟩] w fun e w' => ∃ (x y : ByteArray) (b : Bool), e = .returned (.tuple #[.string x, .string y, .bool b]) ∧ (x.data.toList, y.data.toList) = eqCut s.data.toList ∧ x.size ≤ s.size ∧ y.size ≤ s.size ∧ Below w.heap.size w w' := by
  rcases idx_cases s.data.toList 61 with ⟨h1, h2⟩ | ⟨i, h1, h2, h3, h4⟩
  · have HC := hide (cut_no s · h1)
    have HF := hide (eqCut_none h2)
    clear h1 h2
    go_enter Tryd.func40, Tryd.ntmps40
    go_wp2_with fail
    refine (HC.out _).mono ?_
    rintro e w' ⟨rfl, rfl⟩
    go_wp2
    go_ret3
    exact ⟨s, ⟨#[]⟩, false, rfl, by rw [HF.out], Nat.le_refl _, Nat.zero_le _, Below.refl _ _⟩
  · rw [ba_len] at h2
    have HC := hide (cut_at s i · h1 h2 hs)
    have HF := hide (show eqCut s.data.toList = (s.data.toList.take i, s.data.toList.drop (i + 1)) from (congrArg eqCut h3).trans (eqCut_some h4))
    obtain ⟨x, hx⟩ : ∃ x, s.extract 0 i = x := ⟨_, rfl⟩
    obtain ⟨y, hy⟩ : ∃ y, s.extract (i + 1) s.size = y := ⟨_, rfl⟩
    have HX := hide (show x.data.toList = s.data.toList.take i by rw [← hx]; exact xt_take s i)
    have HY := hide (show y.data.toList = s.data.toList.drop (i + 1) by rw [← hy]; exact xt_drop s (i + 1))
    have HXL := hide (show x.size ≤ s.size by rw [← ba_len x, ← ba_len s, HX.out, List.length_take]; omega)
    have HYL := hide (show y.size ≤ s.size by rw [← ba_len y, ← ba_len s, HY.out, List.length_drop]; omega)
    rw [hx, hy] at HC
    clear h1 h2 h3 h4 hx hy
    go_enter Tryd.func40, Tryd.ntmps40
    go_wp2_with fail
    refine (HC.out _).mono ?_
    rintro e w' ⟨rfl, hb⟩
    go_wp2
    go_ret3
    exact ⟨x, y, true, rfl, by rw [HF.out, HX.out, HY.out], HXL.out, HYL.out, hb⟩
def rdF (t : List UInt8) (o : Option Oq) : Option Oq := match o with | none => none | some o => if cText o = t then some o else none
/-- what is read -/
def RdV (o : Option Oq) (e : Ending) : Prop := match o with | some q => e = .returned (.iface 24 (qv q.kind q.r q.a q.s)) | none => e = .returned .nilIface ∨ PanC e
set_option maxRecDepth 100000 in
set_option maxHeartbeats 2000000 in
theorem read_any (s : ByteArray) (w : World) (hs : s.size ≤ 9223372036854775807) : Calls Tryd.prog 36 #[.string s] w fun e w' => RdV (cOne s.data.toList) e ∧ Below w.heap.size w w' := by
  rw [← readF_is]
  have HC := hide (Cut_any s · hs)
  obtain ⟨t, ht⟩ : ∃ t, s.data.toList = t := ⟨_, rfl⟩
  rw [ht] at HC ⊢
  obtain ⟨p, hp⟩ : ∃ p, (eqCut t).1 = p := ⟨_, rfl⟩
  obtain ⟨q, hq⟩ : ∃ q, (eqCut t).2 = q := ⟨_, rfl⟩
  have HP := hide hp
  have HQ := hide hq
  obtain ⟨R, hR⟩ : ∃ R, readF t = R := ⟨_, rfl⟩
  have HR := hide hR
  rw [hR]
  have HT := hide ht
  clear hp hq hR ht
  go_enter Tryd.func36, Tryd.ntmps36
  go_wp2_with fail
  refine (HC.out _).mono ?_
  rintro e w1 ⟨x, y, b, rfl, hxy, -, -, hb1⟩
  have HXY := hide hxy
  clear hxy
  go_wp2_with fail
  (with_reducible refine (side_any x _).mono ?_)
  rintro e w2 ⟨rfl, hb2⟩
  have hB := bcall hb1 hb2
  clear hb1 hb2
  go_wp2_with fail
  (with_reducible refine (side_any y _).mono ?_)
  rintro e w3 ⟨rfl, hb3⟩
  replace hB := bcall hB hb3
  clear hb3
  obtain ⟨o, ho⟩ : ∃ o, opF (sideF x.data.toList) (sideF y.data.toList) = o := ⟨_, rfl⟩
  have HO := hide (opOf_any (sideF x.data.toList) (sideF y.data.toList) w3)
  rw [ho] at HO
  have HF := hide (show readF t = rdF t o by
    have e1 : (eqCut t).1 = x.data.toList := by rw [← HXY.out]
    have e2 : (eqCut t).2 = y.data.toList := by rw [← HXY.out]
    unfold readF rdF; rw [e1, e2, ho]; cases o <;> rfl)
  clear ho
  cases o with
  | none =>
    go_wp2_with fail
    (with_reducible refine HO.out.mono ?_)
    rintro e w4 ⟨⟨u, v, rfl⟩, hb4⟩
    replace hB := bcall hB hb4
    go_wp2
    refine ⟨rfl, ?_, hB⟩
    rw [← HR.out, HF.out, rdF]
    exact Or.inr ⟨_, _, rfl⟩
  | some o =>
    obtain ⟨k, r, a, z⟩ := o
    simp only [rdF] at HO HF
    go_wp2_with fail
    (with_reducible refine HO.out.mono ?_)
    rintro e w4 ⟨rfl, hb4⟩
    replace hB := bcall hB hb4
    clear hb4
    obtain ⟨w5, e5, hb5, hs5, X⟩ := b4_new w4 (.int .i64 k) (.int .i64 r) (.int .i64 a) (.int .i64 z) 24
    have HE5 := hide e5
    have HX := hide X
    replace hB := bcall hB hb5
    obtain ⟨X0, X1, X2, X3⟩ := X.all
    clear e5 X hb5
    go_upto_region 3 with (fail)
    rw [HE5.out]
    go_wp2_with fail
    (with_reducible refine (opText_any k r a z _).mono ?_)
    rintro e w6 ⟨rfl, hb6⟩
    have HX6 := hide (HX.out.below hb6)
    replace hB := bcall hB hb6
    clear X0 X1 X2 X3 hb6
    obtain ⟨X0, X1, X2, X3⟩ := HX6.out.all
    by_cases he : cText ⟨k, r, a, z⟩ = t
    · have HG := hide (show R = some ⟨k, r, a, z⟩ by rw [← HR.out, HF.out, if_pos he])
      obtain ⟨T, hT⟩ : ∃ T : ByteArray, (⟨(cText ⟨k, r, a, z⟩).toArray⟩ : ByteArray) = T := ⟨_, rfl⟩
      have q1 : (T.toList == s.toList) = true := by
        rw [beq_iff_eq, ba_list, ba_list, HT.out, ← hT, ← he]
      rw [hT]
      clear he hT
      go_wp2
      go_ret
      exact ⟨by rw [HG.out]; rfl, hB⟩
    · have HG := hide (show R = none by rw [← HR.out, HF.out, if_neg he])
      obtain ⟨T, hT⟩ : ∃ T : ByteArray, (⟨(cText ⟨k, r, a, z⟩).toArray⟩ : ByteArray) = T := ⟨_, rfl⟩
      have q1 : (T.toList == s.toList) = false := by
        rw [beq_eq_false_iff_ne, ba_list, ba_list, HT.out, ← hT]; exact he
      rw [hT]
      clear he hT
      go_wp2
      go_ret
      exact ⟨by rw [HG.out]; exact Or.inl rfl, hB⟩
end Go.Proofs.YtffdgkofolomlaaDoor
