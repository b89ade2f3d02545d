import Derived.Test.YthjdjkcdlknhbaaDequeBag
import Derived.Test.YthjdjkcdlknhbaaMemMap
import Derived.Lib.SliceRun
import Derived.Deep.QuietTactic
import Derived.BigQuiet
/- Layer bag: Norm, Count, Sum, Add, Less, Same. -/
namespace Go.Proofs.Ythjdjkcdlknhbaa
open Go.RowKit Go.Maps

theorem grid_one {w : World} {v : Value} {l : List Int} (h : Ints w v l) : Grid (w.alloc (.cells #[v] 45)) (.slice (some ⟨w.heap.size, 0, none⟩) 1 1) [l] :=
  ⟨[v], Sl.of_own one_len (own_new w w.heap.size [v] 45 1 1 (Nat.le_refl _) rfl (by decide)), rfl, fun i u l' hu hl => by
    rcases i with _ | i
    · simp at hu hl; subst hu; subst hl; exact h.alloc _
    · simp at hu⟩
theorem grid_two {w : World} {v u : Value} {a b : List Int} (h : Ints w v a) (h' : Ints w u b) : Grid (w.alloc (.cells #[v, u] 45)) (.slice (some ⟨w.heap.size, 0, none⟩) 2 2) [a, b] :=
  ⟨[v, u], Sl.of_own one_len (own_new w w.heap.size [v, u] 45 1 2 (Nat.le_refl _) rfl (by decide)), rfl, fun i x l' hu hl => by
    rcases i with _ | _ | i
    · simp at hu hl; subst hu; subst hl; exact h.alloc _
    · simp at hu hl; subst hu; subst hl; exact h'.alloc _
    · simp at hu⟩
theorem sl_form {w : World} {v : Value} {l : List Int} (h : Ints w v l) : ∃ A c, v = .slice A l.length c ∧ l.length ≤ c ∧ c ≤ 2 ^ 63 - 1 := by
  obtain ⟨A, c, rfl, h1, h2, -⟩ := h
  exact ⟨A, c, rfl, h1, by unfold maxLen at h2; omega⟩
/-- tally of one bag -/
theorem tally_one {v : Value} {l : List Int} {w : World} (h : Ints w v l) (hk : AllK l) (hb : l.length ≤ 40000000000000) :
    Calls Try.prog 44 #[.slice (some ⟨w.heap.size, 0, none⟩) 1 1] (w.alloc (.cells #[v] 45)) fun e w' => ∃ B, e = .returned (.map (some B)) ∧ TalL w' B l ∧ w.heap.size ≤ B ∧ Below w.heap.size w w' := by
  refine (tally_any _ [l] _ (grid_one h) (by simpa using hk) (by simpa using hb)).mono ?_
  rintro e w' ⟨B, rfl, h1, h2, h3⟩
  simp only [List.flatten_cons, List.flatten_nil, List.append_nil] at h1
  exact ⟨B, rfl, h1, by simp at h2; omega, bcall1 (Below.refl _ _) h3⟩
theorem tally_two {v u : Value} {a b : List Int} {w : World} (h : Ints w v a) (h' : Ints w u b) (hk : AllK a) (hk' : AllK b) (hb : a.length + b.length ≤ 40000000000000) :
    Calls Try.prog 44 #[.slice (some ⟨w.heap.size, 0, none⟩) 2 2] (w.alloc (.cells #[v, u] 45)) fun e w' => ∃ B, e = .returned (.map (some B)) ∧ TalL w' B (a ++ b) ∧ w.heap.size ≤ B ∧ Below w.heap.size w w' := by
  refine (tally_any _ [a, b] _ (grid_two h h') (fun x hx => by simp at hx; rcases hx with hx | hx; exact hk x hx; exact hk' x hx) (by simpa using hb)).mono ?_
  rintro e w' ⟨B, rfl, h1, h2, h3⟩
  simp only [List.flatten_cons, List.flatten_nil, List.append_nil] at h1
  exact ⟨B, rfl, h1, by simp at h2; omega, bcall1 (Below.refl _ _) h3⟩

theorem bNorm_any (v : Value) (b : List Int) (w : World) (h : Ints w v b) (hk : AllK b) (hb : b.length ≤ 17592186044416) :
    Calls Try.prog 42 #[v] w fun e w' => ∃ v', e = .returned v' ∧ w'.ownsRow w.heap.size 3 1 v' (normB b).length ((normB b).flatMap ic) ∧ Below w.heap.size w w' := by
  obtain ⟨A, c, rfl, h1, h2⟩ := sl_form h
  have hT := hide (tally_one h hk (by omega))
  have HK := hide hk
  clear h hk
  go_enter Try.func42, Try.ntmps42
  go_wp2_with fail
  refine hT.out.mono ?_
  rintro e w1 ⟨B, rfl, hT1, hB, hb1⟩
  go_wp2_with fail
  refine (normed_any B b.length _ b w1 hT1 hb (fun _ => rfl) HK.out hb).mono ?_
  rintro e w2 ⟨v2, rfl, ho, hb2⟩
  go_wp2
  go_ret
  exact ⟨_, rfl, own_base ho hb1.size, bcall hb1 hb2⟩
theorem bSum_any (v u : Value) (a b : List Int) (w : World) (h : Ints w v a) (h' : Ints w u b) (hk : AllK a) (hk' : AllK b) (hb : a.length + b.length ≤ 17592186044416) :
    Calls Try.prog 23 #[v, u] w fun e w' => ∃ v', e = .returned v' ∧ w'.ownsRow w.heap.size 3 1 v' (sumB a b).length ((sumB a b).flatMap ic) ∧ Below w.heap.size w w' := by
  obtain ⟨A, c, rfl, h1, h2⟩ := sl_form h
  obtain ⟨A', c', rfl, h3, h4⟩ := sl_form h'
  have hT := hide (tally_two h h' hk hk' (by omega))
  have HK := hide (show AllK (a ++ b) from fun x hx => by rcases List.mem_append.1 hx with hx | hx; exact hk x hx; exact hk' x hx)
  clear h h' hk hk'
  go_enter Try.func23, Try.ntmps23
  go_wp2_with fail
  refine hT.out.mono ?_
  rintro e w1 ⟨B, rfl, hT1, hB, hb1⟩
  go_wp2_with fail
  refine (normed_any B (a ++ b).length _ (a ++ b) w1 hT1 (by rw [List.length_append]; exact hb) (fun _ => rfl) HK.out (by rw [List.length_append]; exact hb)).mono ?_
  rintro e w2 ⟨v2, rfl, ho, hb2⟩
  go_wp2
  go_ret
  exact ⟨_, rfl, own_base ho hb1.size, bcall hb1 hb2⟩

theorem add_mem {b : List Int} {o n x : Int} (h : x ∈ addB b o n) : x = o ∨ x ∈ b := by
  have h1 := List.count_pos_iff.2 h
  rw [add_count] at h1
  by_cases e : x = o
  · exact .inl e
  · rw [if_neg e] at h1
    exact .inr (List.count_pos_iff.1 h1)
theorem add_allK {b : List Int} {o n : Int} (hk : AllK b) (ho : Kw o) : AllK (addB b o n) := fun x hx => by
  rcases add_mem hx with rfl | hx
  · exact ho
  · exact hk x hx
theorem norm_allK {b : List Int} (hk : AllK b) : AllK (normB b) := fun x hx => hk x (List.count_pos_iff.1 (by rw [← norm_count]; exact List.count_pos_iff.2 hx))
theorem add_len_le (b : List Int) (o n : Int) : (addB b o n).length ≤ b.length + min n.toNat 1000 := by
  unfold addB
  rw [norm_len, List.length_append, List.length_replicate]
  have := del_le o (-n).toNat b
  omega
theorem bAdd_any (v : Value) (b : List Int) (o n : Int) (w : World) (h : Ints w v b) (hk : AllK b) (ho : Kw o) (hn : Kw n) (hb : b.length < 17592186044416) (hb2 : (addB b o n).length ≤ 17592186044416) :
    Calls Try.prog 40 #[v, .int .i64 o, .int .i64 n] w fun e w' => ∃ v', e = .returned v' ∧ w'.ownsRow w.heap.size 3 1 v' (addB b o n).length ((addB b o n).flatMap ic) ∧ Below w.heap.size w w' := by
  obtain ⟨A, c, rfl, h1, h2⟩ := sl_form h
  have hT := hide (tally_one h hk (by omega))
  have HK := hide (add_allK (n := n) hk ho)
  have hcl : b.count o ≤ b.length := List.count_le_length
  obtain ⟨z, hz⟩ : ∃ z : Nat, max ((b.count o : Nat) + min n 1000) 0 = (z : Int) := ⟨(max (((b.count o : Nat) : Int) + min n 1000) 0).toNat, by omega⟩
  have HC := hide (show ∀ p, updI (fun o => b.count o) o z p = (addB b o n).count p from fun p => by
    rw [add_count]
    unfold updI
    by_cases e : p = o
    · rw [if_pos e, if_pos e]; omega
    · rw [if_neg e, if_neg e])
  have HNN := hide (show normB (addB b o n) = addB b o n from norm_norm _)
  obtain ⟨hn1, hn2⟩ := hn
  clear h hk
  go_enter Try.func40, Try.ntmps40
  go_wp2_with fail
  refine hT.out.mono ?_
  rintro e w1 ⟨B, rfl, hT1, hB, hb1⟩

  go_wp2_with (first
    | (at_lookup; refine wpList_tal_look (t := 3) rfl _ _ rfl Try.underlying3 Try.underlying79 zeroI rfl o rfl ho hT1 ?_)
    | (at_mapUpdate; refine wpList_tal_store (t := 3) rfl _ _ _ rfl Try.underlying3 Try.underlying79 rfl o rfl ho z _ rfl (by omega) (by omega) (by unfold maxLen; omega) hT1 ?_; intro w4 hT4 hT4' hg4))
  have HT4 := hide hT4
  clear hT4
  refine (normed_any B (b.length + 1) _ (addB b o n) w4 HT4.out (by omega) HC.out HK.out hb2).mono ?_
  rintro e w5 ⟨v5, rfl, ho5, hb5⟩
  rw [HNN.out] at ho5
  have hb4 := hb1.grown hg4 hb1.size (fun g hg => by injection hg with hg; omega)
  go_wp2
  go_ret
  exact ⟨_, rfl, own_base ho5 hb4.size, bcall hb4 hb5⟩

theorem take_count_le (b : List Int) (k : Nat) (o : Int) : (b.take k).count o ≤ b.count o := (List.take_sublist k b).count_le o
theorem take_count_succ {b : List Int} {k : Nat} (h : k < b.length) (o : Int) : (b.take (k + 1)).count o = (b.take k).count o + if b[k] = o then 1 else 0 := by
  rw [List.take_succ_eq_append_getElem h, List.count_append, List.count_singleton]
  by_cases e : b[k] = o <;> simp [e]
/-- what Less tells -/
def lessL (a b : List Int) : List Int := (lessB a b).getD []
set_option maxHeartbeats 1000000 in
theorem bLess_any (v u : Value) (a b : List Int) (w : World) (h : Ints w v a) (h' : Ints w u b) (hk : AllK a) (hk' : AllK b) (hb : a.length ≤ 17592186044416) :
    Calls Try.prog 25 #[v, u] w fun e w' => ∃ v', e = .returned (.tuple #[v', .bool (lessB a b).isSome]) ∧ w'.ownsRow w.heap.size 3 1 v' (lessL a b).length ((lessL a b).flatMap ic) ∧ Below w.heap.size w w' := by
  obtain ⟨A, c, rfl, h1, h2⟩ := sl_form h
  obtain ⟨A', c', rfl, h3, h4⟩ := sl_form h'
  have hT := hide (tally_one h hk (by omega))
  have HK := hide hk
  have HK' := hide hk'
  have HU := hide h'
  clear h h' hk hk'
  go_enter Try.func25, Try.ntmps25
  go_wp2_with fail
  refine hT.out.mono ?_
  rintro e w1 ⟨B, rfl, hT1, hB, hb1⟩
  have HT1 := hide (show Tal Try.prog 3 w1 B a.length (fun o => a.count o - (b.take 0).count o) from Tal.same hT1 fun o => by simp)
  clear hT1 hT
  go_wp2
  go_loopw [14] (fun i wr => ∃ k : Nat, k ≤ b.length ∧ i = .int .i64 k ∧ Below w.heap.size w wr ∧ Hid (Tal Try.prog 3 wr B a.length (fun o => a.count o - (b.take k).count o)) ∧ Hid (∀ o, (b.take k).count o ≤ a.count o)) (fun i _ => b.length - (Go.RowKit.intOf i).toNat)
  case atStart => exact ⟨0, Nat.zero_le _, rfl, hb1, HT1, hide (by simp)⟩
  case round =>
    obtain ⟨k, hkl, rfl, hb2, HT2, HC⟩ := hrel
    by_cases hlt : k < b.length
    · obtain ⟨b1, o1, rfl, hbl, c1⟩ := ints_at (HU.out.below hb2) hlt
      have hx := HK'.out _ (List.getElem_mem hlt)
      have HS := hide (take_count_succ hlt)
      have hcx := HC.out b[k]
      have hal : a.count b[k] ≤ a.length := List.count_le_length
      have HG := hide (fun h : a.count b[k] ≤ (b.take k).count b[k] => (less_none ⟨b[k], by have h5 := take_count_le b (k + 1) b[k]; rw [HS.out, if_pos rfl] at h5; omega⟩ : lessB a b = none))
      generalize hbk : b[k] = x at *
      obtain ⟨m, hm⟩ : ∃ m, a.count x - (b.take k).count x = m := ⟨_, rfl⟩
      have HM := hide hm
      have hml : m ≤ a.length := by omega
      rcases Nat.eq_zero_or_pos m with h0 | h0
      · subst h0
        have HN := hide (HG.out (by omega))
        clear hm hcx
        go_wp2_with (at_lookup; refine wpList_tal_look (t := 3) rfl _ _ rfl Try.underlying3 Try.underlying79 zeroI rfl x rfl hx HT2.out ?_; simp only [HM.out])
        go_ret2
        refine ⟨_, by rw [HN.out]; rfl, ?_, hb2⟩
        unfold lessL
        rw [HN.out]
        exact World.ownsRow_nil _ _ _ _
      · have e0 : ((m : Int) == 0) = false := by rw [beq_eq_false_iff_ne]; omega
        have HD := hide (show ∀ o, updI (fun o => a.count o - (b.take k).count o) x (m - 1) o = a.count o - (b.take (k + 1)).count o from fun o => by
          rw [HS.out]
          unfold updI
          by_cases e : o = x
          · subst e; rw [if_pos rfl, if_pos rfl]; omega
          · rw [if_neg e, if_neg (fun e' => e e'.symm)]; rfl)
        have HC' := hide (show ∀ o, (b.take (k + 1)).count o ≤ a.count o from fun o => by
          rw [HS.out]
          by_cases e : x = o
          · subst e; rw [if_pos rfl]; omega
          · rw [if_neg e]; exact HC.out o)
        clear hm hcx
        go_wp2_with (first
          | (at_lookup; refine wpList_tal_look (t := 3) rfl _ _ rfl Try.underlying3 Try.underlying79 zeroI rfl x rfl hx HT2.out ?_; simp only [HM.out])
          | (at_mapUpdate; refine wpList_tal_store (t := 3) rfl _ _ _ rfl Try.underlying3 Try.underlying79 rfl x rfl hx (m - 1) _ rfl (by omega) (by omega) (by unfold maxLen; omega) HT2.out ?_; intro w4 hT4 hT4' hg4))
        have HT4 := hide (Tal.same (hT4' (by have := HM.out; simp only [this]; exact h0)) fun o => (HD.out o).symm)
        clear hT4 hT4'
        have hb4 := hb2.grown hg4 (by have := hb2.size; omega) (fun g hg => by injection hg with hg; omega)
        go_roundw
        case rel => exact ⟨k + 1, by omega, by go_num, hb4, HT4, HC'⟩
        case measure => simp [Go.RowKit.intOf]; omega
    · have hkk : k = b.length := by omega
      subst hkk
      rw [List.take_of_length_le (Nat.le_refl _)] at HT2 HC
      obtain ⟨l, hl1, hl2, hl3⟩ := less_some HC.out
      have hkl : AllK l := fun x hx => HK.out x (List.count_pos_iff.1 (by have := List.count_pos_iff.2 hx; rw [hl3] at this; omega))
      have hll : l.length ≤ a.length := len_le_count fun o => by rw [hl3]; omega
      have HN := hide (norm_of_rises hl2)
      have HL := hide hl1
      have HE := hide hl3
      clear hl1 hl2 hl3
      go_wp2_with fail
      refine (normed_any B a.length _ l wr HT2.out hb (fun o => (HE.out o).symm) hkl (by omega)).mono ?_
      rintro e w5 ⟨v5, rfl, ho5, hb5⟩
      rw [HN.out] at ho5
      go_wp2
      go_ret2
      have hl : lessL a b = l := by unfold lessL; rw [HL.out]; rfl
      rw [HL.out, hl]
      exact ⟨_, rfl, own_base ho5 hb2.size, bcall hb2 hb5⟩
end Go.Proofs.Ythjdjkcdlknhbaa
/- Layer bag: slices.Equal on bags, Same. -/
namespace Go.Proofs.Ythjdjkcdlknhbaa
open Go.RowKit

theorem own_ints {base : Nat} {w : World} {v : Value} {l : List Int} (h : w.ownsRow base 3 1 v l.length (l.flatMap ic)) : Ints w v l := Sl.of_own ic_len h
set_option maxHeartbeats 2000000 in
theorem Equal_ints (va vb : Value) (a b : List Int) (w : World) (ha : Ints w va a) (hb : Ints w vb b) :
    Calls Try.prog 41 #[va, vb] w fun e w' => e = .returned (.bool (decide (a = b))) ∧ Below w.heap.size w w' := by
  obtain ⟨A, c, rfl, h1, h2⟩ := sl_form ha
  obtain ⟨B, d, rfl, h3, h4⟩ := sl_form hb
  have HA := hide ha
  have HB := hide hb
  clear ha hb
  by_cases hn : a.length = b.length
  · have q : (((a.length : Int)) != ((b.length : Int))) = false := by rw [bne_eq_false_iff_eq]; omega
    have HN := hide hn
    clear hn
    go_enter Try.func41, Try.ntmps41
    go_wp2
    go_loopw [13] (fun i wr => ∃ k : Nat, k ≤ a.length ∧ i = .int .i64 k ∧ Below w.heap.size w wr ∧ Hid (a.take k = b.take k)) (fun i _ => a.length - (Go.RowKit.intOf i).toNat)
    case atStart => exact ⟨0, Nat.zero_le _, rfl, Below.refl _ _, hide (by simp)⟩
    case round =>
      obtain ⟨k, hk, rfl, hbw, HE⟩ := hrel
      by_cases hlt : k < a.length
      · have hlb : k < b.length := by have := HN.out; omega
        obtain ⟨b1, o1, rfl, -, c0⟩ := ints_at (HA.out.below hbw) hlt
        obtain ⟨b2, o2, rfl, -, c2⟩ := ints_at (HB.out.below hbw) hlb
        by_cases he : a[k] = b[k]
        · have e1 : (a[k] != b[k]) = false := by rw [bne_eq_false_iff_eq]; exact he
          have HE' := hide (show a.take (k + 1) = b.take (k + 1) by rw [List.take_succ_eq_append_getElem hlt, List.take_succ_eq_append_getElem hlb, HE.out, he])
          clear he
          generalize a[k] = x at *
          generalize b[k] = y at *
          go_wp2
          go_quiet (fail)
          go_wp2
          go_roundw
          case rel => exact ⟨k + 1, by omega, by go_num, bdrewN hbw _, HE'⟩
          case measure => simp [Go.RowKit.intOf]; omega
        · have e1 : (a[k] != b[k]) = true := by rw [bne_iff_ne]; exact he
          have HF := hide (show decide (a = b) = false by
            simp only [decide_eq_false_iff_not]
            intro h
            apply he
            simp [h])
          clear he
          generalize a[k] = x at *
          generalize b[k] = y at *
          go_wp2
          go_quiet (fail)
          go_wp2
          go_ret
          exact ⟨ret_bool HF.out.symm, bdrewN hbw _⟩
      · have HF := hide (show a = b by
          have h := HE.out
          have := HN.out
          rwa [List.take_of_length_le (by omega), List.take_of_length_le (by omega)] at h)
        go_wp2
        go_ret
        exact ⟨ret_bool (by rw [HF.out]; simp), hbw⟩
  · have q : (((a.length : Int)) != ((b.length : Int))) = true := by rw [bne_iff_ne]; omega
    have HN := hide (show decide (a = b) = false by simp; intro e; exact hn (by rw [e]))
    clear hn
    go_enter Try.func41, Try.ntmps41
    go_wp2
    go_ret
    exact ⟨ret_bool HN.out.symm, Below.refl _ _⟩
theorem bSame_any (va vb : Value) (a b : List Int) (w : World) (ha : Ints w va a) (hb : Ints w vb b) (hka : AllK a) (hkb : AllK b) (hla : a.length ≤ 17592186044416) (hlb : b.length ≤ 17592186044416) :
    Calls Try.prog 22 #[va, vb] w fun e w' => e = .returned (.bool (sameB a b)) ∧ Below w.heap.size w w' := by
  have HA := hide ha
  have HB := hide hb
  obtain ⟨A, c, rfl, h1, h2⟩ := sl_form ha
  obtain ⟨B, d, rfl, h3, h4⟩ := sl_form hb
  clear ha hb
  go_enter Try.func22, Try.ntmps22
  go_wp2_with fail
  refine (bNorm_any _ a _ HA.out hka hla).mono ?_
  rintro e w1 ⟨v1, rfl, ho1, hb1⟩
  have H1 := hide (own_ints ho1)
  have HB := hide (HB.out.below hb1)
  clear ho1
  go_wp2_with fail
  refine (bNorm_any _ b _ HB.out hkb hlb).mono ?_
  rintro e w2 ⟨v2, rfl, ho2, hb2⟩
  have H2 := hide (own_ints ho2)
  have H1 := hide (H1.out.below hb2)
  clear ho2
  go_wp2_with fail
  refine (Equal_ints _ _ _ _ _ H1.out H2.out).mono ?_
  rintro e w3 ⟨rfl, hb3⟩
  go_wp2
  go_ret
  exact ⟨rfl, bcall (bcall hb1 hb2) hb3⟩
end Go.Proofs.Ythjdjkcdlknhbaa
/- Layer bag: contracts with named values, where memory of layer mem lies beside. -/
namespace Go.Proofs.Ythjdjkcdlknhbaa
open Go.RowKit

theorem allK_of {l : List Int} (h : l.all (fun x => decide (-9223372036854775808 ≤ x ∧ x ≤ 9223372036854775807)) = true) : AllK l := fun x hx => by
  have := List.all_eq_true.1 h x hx
  simpa [Kw] using this
theorem lit_ints {w : World} (l : List Int) (n : Nat) (hn : l.length = n) (hl : n ≤ maxLen) : ∃ w1, w.alloc (.cells (l.flatMap ic).toArray 3) = w1 ∧ Below w.heap.size w w1 ∧ Ints w1 (.slice (some ⟨w.heap.size, 0, none⟩) n n) l := by
  subst hn
  exact ⟨_, rfl, bal _ _, Sl.of_own ic_len (own_new w w.heap.size (l.flatMap ic) 3 1 l.length (Nat.le_refl _) (flatMap_len ic_len l) hl)⟩
theorem own_c {w0 w w' : World} {v : Value} {l r : List Int} {n : Nat} (hr : l = r) (hn : r.length = n) (h : w'.ownsRow w0.heap.size 3 1 v l.length (l.flatMap ic)) (hb : Below w.heap.size w w') :
    ∃ A c, v = .slice A n c ∧ (n ≤ c ∧ c ≤ 2 ^ 63 - 1) ∧ Ints w' (.slice A n c) r ∧ Below w.heap.size w w' := by
  subst hr hn
  have hi := own_ints h
  obtain ⟨A, c, rfl, h1, h2⟩ := sl_form hi
  exact ⟨A, c, rfl, ⟨h1, h2⟩, hi, hb⟩
theorem Add_c (v : Value) (b : List Int) (o n : Int) (w : World) (h : Ints w v b) (hk : AllK b) (ho : Kw o) (hn : Kw n) (hb : b.length < 17592186044416) (r : List Int) (hr : addB b o n = r) (hb2 : r.length ≤ 17592186044416) (m : Nat) (hm : r.length = m) :
    Calls Try.prog 40 #[v, .int .i64 o, .int .i64 n] w fun e w' => ∃ A c, e = .returned (.slice A m c) ∧ (m ≤ c ∧ c ≤ 2 ^ 63 - 1) ∧ Ints w' (.slice A m c) r ∧ Below w.heap.size w w' := by
  refine (bAdd_any v b o n w h hk ho hn hb (by rw [hr]; exact hb2)).mono ?_
  rintro e w' ⟨v', rfl, ho, hbl⟩
  obtain ⟨A, c, rfl, h1, h2, h3⟩ := own_c hr hm ho hbl
  exact ⟨A, c, rfl, h1, h2, h3⟩
theorem Sum_c (v u : Value) (a b : List Int) (w : World) (h : Ints w v a) (h' : Ints w u b) (hk : AllK a) (hk' : AllK b) (hb : a.length + b.length ≤ 17592186044416) (r : List Int) (hr : sumB a b = r) (m : Nat) (hm : r.length = m) :
    Calls Try.prog 23 #[v, u] w fun e w' => ∃ A c, e = .returned (.slice A m c) ∧ (m ≤ c ∧ c ≤ 2 ^ 63 - 1) ∧ Ints w' (.slice A m c) r ∧ Below w.heap.size w w' := by
  refine (bSum_any v u a b w h h' hk hk' hb).mono ?_
  rintro e w' ⟨v', rfl, ho, hbl⟩
  obtain ⟨A, c, rfl, h1, h2, h3⟩ := own_c hr hm ho hbl
  exact ⟨A, c, rfl, h1, h2, h3⟩
theorem Less_c (v u : Value) (a b : List Int) (w : World) (h : Ints w v a) (h' : Ints w u b) (hk : AllK a) (hk' : AllK b) (hb : a.length ≤ 17592186044416) (r : List Int) (hr : lessL a b = r) (t : Bool) (ht : (lessB a b).isSome = t) (m : Nat) (hm : r.length = m) :
    Calls Try.prog 25 #[v, u] w fun e w' => ∃ A c, e = .returned (.tuple #[.slice A m c, .bool t]) ∧ (m ≤ c ∧ c ≤ 2 ^ 63 - 1) ∧ Ints w' (.slice A m c) r ∧ Below w.heap.size w w' := by
  subst ht
  refine (bLess_any v u a b w h h' hk hk' hb).mono ?_
  rintro e w' ⟨v', rfl, ho, hbl⟩
  obtain ⟨A, c, rfl, h1, h2, h3⟩ := own_c hr hm ho hbl
  exact ⟨A, c, rfl, h1, h2, h3⟩
theorem Same_c (va vb : Value) (a b : List Int) (w : World) (ha : Ints w va a) (hb : Ints w vb b) (hka : AllK a) (hkb : AllK b) (hla : a.length ≤ 17592186044416) (hlb : b.length ≤ 17592186044416) (t : Bool) (hr : sameB a b = t) :
    Calls Try.prog 22 #[va, vb] w fun e w' => e = .returned (.bool t) ∧ Below w.heap.size w w' := by
  subst hr
  exact bSame_any va vb a b w ha hb hka hkb hla hlb
end Go.Proofs.Ythjdjkcdlknhbaa
