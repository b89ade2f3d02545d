/- Layer code: the document's Print. -/
import Derived.Test.YtffdgkofolomlaaDoorRefCodeC
namespace Go.Proofs.YtffdgkofolomlaaDoor
open Go.RowKit

theorem joinS_snoc : ∀ (l : List (List UInt8)) (p : List UInt8), l ≠ [] → joinS (l ++ [p]) = joinS l ++ 59 :: p
  | [], _, h => absurd rfl h
  | [a], p, _ => rfl
  | a :: b :: l, p, _ => by
    have := joinS_snoc (b :: l) p (by simp)
    simp only [List.cons_append, joinS] at this ⊢
    rw [this]; simp
theorem join_take {l : List Oq} {i : Nat} (h : i < l.length) : joinS ((l.take (i + 1)).map cText) = (if i = 0 then cText l[i] else joinS ((l.take i).map cText) ++ 59 :: cText l[i]) := by
  rw [List.take_succ_eq_append_getElem h, List.map_append]
  by_cases h0 : i = 0
  · subst h0; rfl
  · rw [if_neg h0]
    exact joinS_snoc _ _ (by intro e; rw [List.map_eq_nil_iff, List.take_eq_nil_iff] at e; rcases e with e | e; exact h0 e; rw [e] at h; simp at h)
theorem cText_len (o : Oq) : (cText o).length ≤ 5 := by
  cases h : cRight o 4 4
  · rw [(text_no o).2 h]; simp
  · exact (all_text o (mem_all.2 h)).2.2.2.2
theorem join_len (l : List Oq) : ∀ i : Nat, i ≤ l.length → (joinS ((l.take i).map cText)).length ≤ 6 * i
  | 0, _ => by simp [joinS]
  | i + 1, h => by
    have h1 := join_len l i (by omega)
    have h2 := cText_len (l[i]'(by omega))
    rw [join_take (by omega)]
    split
    · omega
    · simp only [List.length_append, List.length_cons]; omega
set_option maxRecDepth 100000 in
set_option maxHeartbeats 2000000 in
theorem rcPrint_any (v : Value) (l : List Oq) (w : World) (h : Oqs w v l) (hbig : l.length * 32 ≤ 140737488351232) : Calls Tryd.prog 23 #[v] w fun e w' => e = .returned (.string ⟨(cPrint l).toArray⟩) ∧ Below w.heap.size w w' := by
  have HO := hide h
  obtain ⟨A, m, rfl, hm1, hm2, -⟩ := id h
  unfold maxLen at hm2
  clear h
  by_cases h0 : l = []
  · subst h0
    go_enter Tryd.func23, Tryd.ntmps23
    go_wp2
    go_ret
    exact ⟨rfl, Below.refl _ _⟩
  · have H0 := hide h0
    have hl0 : ((l.length : Int) == 0) = false := by rw [beq_eq_false_iff_ne]; intro e; exact h0 (List.eq_nil_of_length_eq_zero (by omega))
    have hl1 : ¬ (l.length : Int) = 0 := by intro e; exact h0 (List.eq_nil_of_length_eq_zero (by omega))
    clear h0
    go_enter Tryd.func23, Tryd.ntmps23
    go_wp2
    go_loopw [3, 4] (fun sv iv wr => ∃ i : Nat, i ≤ l.length ∧ iv = .int .i64 i ∧ sv = .string ⟨(joinS ((l.take i).map cText)).toArray⟩ ∧ Below w.heap.size w wr) (fun _ iv _ => l.length - (Go.RowKit.intOf iv).toNat)
    case atStart => exact ⟨0, Nat.zero_le _, rfl, rfl, Below.refl _ _⟩
    case round =>
      obtain ⟨i, hi, rfl, rfl, hb⟩ := hrel
      by_cases hlt : i < l.length
      · obtain ⟨⟨k, r, a, s⟩, hd⟩ : ∃ d : Oq, l[i] = d := ⟨_, rfl⟩
        obtain ⟨g, off, rfl, -, d0, d1, d2, d3⟩ := oq_at (HO.out.below hb) hlt hd
        have hT := join_take hlt
        rw [hd] at hT
        have hTl := join_len l i (by omega)
        have hcl := cText_len ⟨k, r, a, s⟩
        obtain ⟨T, hTT⟩ : ∃ T, joinS ((l.take i).map cText) = T := ⟨_, rfl⟩
        rw [hTT] at hT hTl ⊢
        by_cases hi0 : i = 0
        · rw [if_pos hi0] at hT
          have HTT := hide hT
          have HT0 := hide (show T = [] by rw [← hTT, hi0]; rfl)
          have hii : ¬ 0 < i := by omega
          clear hT hd hTT hi0
          go_wp2_with fail
          (with_reducible refine (rcText_any k r a s _).mono ?_)
          rintro e w2 ⟨rfl, hb2⟩
          have hb3 := bcall hb hb2
          go_wp2
          go_roundw
          case rel => exact ⟨i + 1, by omega, by go_num, by rw [HTT.out, HT0.out]; congr 1, hb3⟩
          case measure => simp [Go.RowKit.intOf]; omega
        · rw [if_neg hi0] at hT
          have HTT := hide hT
          have hii : 0 < i := by omega
          clear hT hd hTT hi0
          go_wp2_with fail
          (with_reducible refine (rcText_any k r a s _).mono ?_)
          rintro e w2 ⟨rfl, hb2⟩
          have hb3 := bcall hb hb2
          go_wp2
          go_roundw
          case rel => exact ⟨i + 1, by omega, by go_num, by rw [HTT.out]; congr 1; apply ByteArray.ext; simp [ByteArray.data_append], hb3⟩
          case measure => simp [Go.RowKit.intOf]; omega
      · have HF := hide (show cPrint l = joinS ((l.take i).map cText) by rw [List.take_of_length_le (by omega)]; unfold cPrint; rw [if_neg H0.out])
        go_wp2
        go_ret
        exact ⟨cret (by rw [HF.out]), hb⟩
end Go.Proofs.YtffdgkofolomlaaDoor
