import Derived.Test.YtjbaiibbgplljaaGreatDoorPaf
import Derived.Test.YtjbaiibbgplljaaGreatDoorPay
set_option maxRecDepth 100000
set_option maxHeartbeats 40000000
namespace Go.Proofs.YtjbaiibbgplljaaGreatDoor
open Go.RowKit Go.Shelf Go.Proofs
theorem join_next {l : List Oq} {i : Nat} (h : i < l.length) (h0 : i ≠ 0) : joinS ((l.take (i + 1)).map cText) = joinS ((l.take i).map cText) ++ [59] ++ cText l[i] := by
 rw [join_take h, if_neg h0, List.append_assoc]; rfl
theorem join_first {l : List Oq} {i : Nat} (h : i < l.length) (h0 : i = 0) : joinS ((l.take (i + 1)).map cText) = cText l[i] := by
 rw [join_take h, if_pos h0]
theorem b4_other {w w' : World} {B b : Nat} {x y z u : Value} {t e : TypeId} (h : B4 t w B x y z u) (hk : Lib.OthersKept e (some b) w w') (hb : B ≠ b) (ht : t ≠ e) : B4 t w' B x y z u :=
 ⟨hk B _ h.blk (fun e0 => hb (by injection e0)) (by intro c fz e0; injection e0 with _ e1 _; exact ht e1)⟩
abbrev Bld (w : World) (T : List UInt8) (wr : World) : Prop := Lib.IsBuilderF 153 5 w.heap.size w.heap.size (Lib.byteCells T) wr
theorem bld_lt {w wr : World} {T : List UInt8} (h : Bld w T wr) : w.heap.size < wr.heap.size := by
 rcases h with ⟨_, v, h2, _⟩ | ⟨_, v, h2, _⟩ <;> exact (Array.getElem?_eq_some_iff.1 h2).1
theorem Print_anyCd (v : Value) (l : List Oq) (w : World) (h : Oqs w v l) (hbig : l.length * 32 ≤ 140737488351232) : Calls Tryz.prog 101 #[v] w fun e w' => e = .returned (.string ⟨(cPrint l).toArray⟩) ∧ Below w.heap.size w w' := by
 have HO := hide h; obtain ⟨A, m, rfl, hm1, hm2, -⟩ := id h; unfold maxLen at hm2; clear h; by_cases h0 : l = []
 · subst h0
   go_enter Tryz.func101, Tryz.ntmps101
   go_wp2; go_ret
   exact ⟨rfl, Below.refl _ _⟩
 · have H0 := hide h0
   have hl0 : ((l.length : Int) == 0) = false := by rw [beq_eq_false_iff_ne]; intro e; exact h0 (List.eq_nil_of_length_eq_zero (by omega))
   have hl1 : ¬ (l.length : Int) = 0 := by intro e; exact h0 (List.eq_nil_of_length_eq_zero (by omega))
   obtain ⟨w0, e0, hb0⟩ : ∃ w0, w.alloc (.cells #[.pointer none, .slice none 0 0] 153) = w0 ∧ Below w.heap.size w w0 := ⟨_, rfl, cbal _ _⟩; have HI0 : Hid (Bld w (joinS ((l.take 0).map cText)) w0) := hide (by rw [← e0]; exact Lib.IsBuilderF.of (Lib.fresh_isBuilder _ _ w)); have HE0 := hide e0; clear h0 e0; go_enter Tryz.func101, Tryz.ntmps101
   go_upto_region 4 with (fail)
   rw [HE0.out]; go_wp2; go_loopw [11] (fun iv wr => ∃ i : Nat, i ≤ l.length ∧ iv = .int .i64 i ∧ Below w.heap.size w wr ∧ Hid (Bld w (joinS ((l.take i).map cText)) wr)) (fun iv _ => l.length - (intOf iv).toNat)
   case atStart => exact ⟨0, Nat.zero_le _, rfl, hb0, HI0⟩
   case round =>
    obtain ⟨i, hi, rfl, hb, HI⟩ := hrel; by_cases hlt : i < l.length
    · obtain ⟨⟨k, r, a, s⟩, hd⟩ : ∃ d : Oq, l[i] = d := ⟨_, rfl⟩
      obtain ⟨g, off, rfl, -, d0, d1, d2, d3⟩ := oq_at (HO.out.below hb) hlt hd; have hTl := join_len l i (by omega); have hcl := cText_len ⟨k, r, a, s⟩; obtain ⟨w1, e1, hb1, hs1, X⟩ := b4_new wr (.int .i64 k) (.int .i64 r) (.int .i64 a) (.int .i64 s) 96; have HE1 := hide e1; have HX := hide X; have HI1 := hide (builder_below HI.out hb1); have hB := bcall hb hb1; have hsz := hb.size; have hgt := bld_lt HI.out; have HS1 := hide hs1; obtain ⟨X0, X1, X2, X3⟩ := X.all; clear e1 X hb1 hs1; obtain ⟨T, hTT⟩ : ∃ T, joinS ((l.take i).map cText) = T := ⟨_, rfl⟩; rw [hTT] at HI1 hTl; by_cases hi0 : i = 0
      · have HN := hide ((join_first hlt hi0).trans (congrArg cText hd))
        have HT0 := hide (show T = [] by rw [← hTT, hi0]; rfl); have hii : ¬ 0 < i := by omega
        clear hd hTT hi0; go_upto_region 7 with (fail)
        rw [HE1.out]; go_wp2_with fail
        (with_reducible refine (Text_anyCd k r a s _).mono ?_); rintro e w2 ⟨rfl, hb2⟩; have HI2 := hide (builder_below HI1.out hb2); replace hB := bcall hB hb2; have hW := hide (Builder_WriteString_k w.heap.size w.heap.size _ ⟨(cText ⟨k, r, a, s⟩).toArray⟩ w2 HI2.out (by rw [Lib.byteCells_length, ba_size]; omega) hB.size); clear X0 X1 X2 X3 hb2; go_wp2_with fail
        refine hW.out.mono ?_; rintro e w3 ⟨rfl, hI3, hB3, -⟩; go_wp2; go_roundw
        case rel => exact ⟨i + 1, by omega, by go_num, hB.trans hB3, hide (by rw [HN.out]; rw [HT0.out] at hI3; exact Or.inr hI3)⟩
        case measure => simp [intOf]; omega
      · have HN := hide ((join_next hlt hi0).trans (by rw [hTT, hd]))
        have hii : 0 < i := by omega
        have hW := hide (Builder_WriteString_k w.heap.size w.heap.size _ ⟨#[59]⟩ w1 HI1.out (by rw [Lib.byteCells_length]; show T.length + 1 ≤ _; omega) hB.size); clear hd hTT hi0 X0 X1 X2 X3; go_upto_region 7 with (fail)
        rw [HE1.out]; go_wp2_with fail
        refine hW.out.mono ?_; rintro e w2 ⟨rfl, hI2, hB2, hk2⟩; have HX2 := hide (b4_other HX.out hk2 (by omega) (by decide)); replace hB := hB.trans hB2; have HI2 : Hid (Bld w (T ++ [59]) w2) := hide (Or.inr (by rw [Lib.byteCells_append]; exact hI2)); clear hI2 hB2 hk2 hW; obtain ⟨X0, X1, X2, X3⟩ := HX2.out.all; go_wp2_with fail
        (with_reducible refine (Text_anyCd k r a s _).mono ?_); rintro e w3 ⟨rfl, hb3⟩; have HI3 := hide (builder_below HI2.out hb3); replace hB := bcall hB hb3; have hW := hide (Builder_WriteString_k w.heap.size w.heap.size _ ⟨(cText ⟨k, r, a, s⟩).toArray⟩ w3 HI3.out (by rw [Lib.byteCells_length, ba_size, List.length_append]; simp only [List.length_singleton]; omega) hB.size); clear X0 X1 X2 X3 hb3; go_wp2_with fail
        refine hW.out.mono ?_; rintro e w4 ⟨rfl, hI4, hB4, -⟩; go_wp2; go_roundw
        case rel => exact ⟨i + 1, by omega, by go_num, hB.trans hB4, hide (by rw [HN.out]; exact Or.inr (by rw [Lib.byteCells_append]; exact hI4))⟩
        case measure => simp [intOf]; omega
    · have HF := hide (show cPrint l = joinS ((l.take i).map cText) by rw [List.take_of_length_le (by omega)]; unfold cPrint; rw [if_neg H0.out])
      have hS := hide (Tryz.Builder_String_any_k w.heap.size w.heap.size _ _ HI.out hb.size); go_wp2_with fail
      refine hS.out.mono ?_; rintro e w2 ⟨rfl, -, hb2, -⟩; go_wp2; go_ret
      exact ⟨cret (by rw [HF.out, List.map_take]), hb.trans hb2⟩
