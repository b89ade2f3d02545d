import Derived.Test.YtjbaiibbgplljaaGreatDoorPbe
import Derived.Test.YtjbaiibbgplljaaGreatDoorPax
import Derived.Test.YtjbaiibbgplljaaGreatDoorPao
import Derived.Test.YtjbaiibbgplljaaGreatDoorPai
set_option maxRecDepth 100000
set_option maxHeartbeats 40000000
namespace Go.Proofs.YtjbaiibbgplljaaGreatDoor
open Go.RowKit Go.Shelf Go.Proofs
def rowP (r : List Int) (j : Nat) : B8 := if j = 0 then [124] else slotsT 0 (r.take j)
theorem rowP_one (r : List Int) (h : 0 < r.length) : rowP r 1 = rowP r 0 ++ dec r[0] := by
 cases r with
 | nil => simp at h
 | cons x r => simp [rowP, slotsT, aheadF]
theorem rowP_more (r : List Int) (j : Nat) (h : j < r.length) (h0 : j ≠ 0) : rowP r (j + 1) = rowP r j ++ 44 :: dec r[j] := by
 unfold rowP; rw [if_neg (by omega), if_neg h0, List.take_succ_eq_append_getElem h, slotsT_snoc, List.length_take]; congr 2
 unfold aheadF; rw [if_neg (by omega)]
theorem rowP_end (r : List Int) (j : Nat) (h : r.length ≤ j) (h0 : r ≠ []) : rowP r j = slotsT 0 r := by
 unfold rowP; rw [if_neg (by rintro rfl; exact h0 (List.eq_nil_of_length_eq_zero (by omega))), List.take_of_length_le h]
theorem rowP_len (r : List Int) (j : Nat) (h : ∀ v ∈ r, 0 ≤ v ∧ v ≤ 64) (h4 : r.length ≤ 4) : (rowP r j).length ≤ 12 := by
 unfold rowP; split
 · simp
 · have h1 := slotsT_len (r.take j) 0 fun v hv => h v (List.mem_of_mem_take hv)
   rw [List.length_take] at h1; omega
def headP (n : Int) (ls : Rws) (k : Nat) : B8 := dec n ++ (ls.take k).flatMap (slotsT 0)
theorem headP_more (n : Int) (ls : Rws) (k : Nat) (h : k < ls.length) : headP n ls (k + 1) = headP n ls k ++ slotsT 0 ls[k] := by
 unfold headP; rw [List.take_succ_eq_append_getElem h, List.flatMap_append, List.append_assoc]; simp
theorem headP_len {n : Int} {ls : Rws} (hR : rightF n ls = true) (k : Nat) : (headP n ls k).length ≤ 800 := by
 have hr := right_len hR; have h1 := rows_len (ls.take k) fun l hl => by
  have := right_rows hR l (List.mem_of_mem_take hl); exact ⟨by omega, fun v hv => by have := this.2 v hv; omega⟩
 have h2 := dec_lenHp (v := n) (by omega) (by omega); unfold headP; rw [List.length_append]; rw [List.length_take] at h1; omega
theorem rDigits_c (n : Int) (w : World) (h0 : 0 ≤ n) (h1 : n ≤ 9223372036854775807) :
 Calls Tryz.prog 104 #[.int .u64 n] w fun e w' => e = .returned (.string ⟨(dec n).toArray⟩) ∧ Below w.heap.size w w' := by
 obtain ⟨N, rfl⟩ : ∃ N : Nat, n = N := ⟨n.toNat, by omega⟩; have := rDigits_all N w (by omega); unfold dec; rw [Int.toNat_natCast]; exact this
theorem rText_anyRf (n : Int) (v : Value) (ls : Rws) (w : World) (h : Grid w v ls) :
 Calls Tryz.prog 66 #[hv n v] w fun e w' => e = .returned (.string ⟨(hTextF n ls).toArray⟩) ∧ Below w.heap.size w w' := by
 have HG := hide h; obtain ⟨A, c, rfl, h1, h2⟩ := h.form; unfold maxLen at h2; clear h; obtain ⟨w1, ew, hB1, hlt1, hold, k0, k1⟩ := box1Hp w (.int .i64 n) (.slice A ls.length c) 36; have HE := hide ew; have HG1 := hide (HG.out.below hB1); clear ew; go_enter Tryz.func66, Tryz.ntmps66
 go_wp2_with fail
 rw [HE.out]; (with_reducible refine (rRight_anyRf _ _ ls _ HG1.out).mono ?_); rintro e w2 ⟨rfl, hb2⟩; have x0 := keepcHp hb2 k0; have x1 := keepcHp hb2 k1; have hb02 := bcall hB1 hb2; by_cases hR : rightF n ls = true
 · rw [hR]
   obtain ⟨r1, r2, r3⟩ := right_len hR; have HRT := hide hR; have HTX := hide (show hTextF n ls = headP n ls ls.length by unfold hTextF headP; rw [if_pos hR, List.take_length]); clear hR; go_wp2_with fail
   (with_reducible refine (rDigits_c n _ (by omega) (by omega)).mono ?_); rintro e w3 ⟨rfl, hb3⟩; have x0 := keepcHp hb3 x0; have x1 := keepcHp hb3 x1; have hb03 := bcall hb02 hb3; go_wp2_with fail
   go_loopw [3, 4] (fun t i wi => ∃ k : Nat, k ≤ ls.length ∧ i = .int .i64 k ∧ t = .string ⟨(headP n ls k).toArray⟩ ∧ Below w3.heap.size w3 wi) (fun _ i _ => ls.length - (intOf i).toNat)
   case atStart => exact ⟨0, Nat.zero_le _, rfl, by simp [headP], Below.refl _ _⟩
   case round =>
    obtain ⟨k, hk, rfl, rfl, hb⟩ := hrel; have x0 := keepcHp hb x0; have x1 := keepcHp hb x1; have hbw := bcall hb03 hb; by_cases hlt : k < ls.length
    · obtain ⟨gb, goff, uu, rfl, -, hgc, hgi⟩ := grid_at (HG.out.below hbw) hlt
      have hrr := right_rows HRT.out ls[k] (List.getElem_mem hlt); have HM := hide (headP_more n ls k hlt); have hpl := headP_len HRT.out k; obtain ⟨row, hrw⟩ : ∃ row, ls[k] = row := ⟨_, rfl⟩; rw [hrw] at hgi hrr HM; obtain ⟨P, hP⟩ : ∃ P, headP n ls k = P := ⟨_, rfl⟩; rw [hP] at HM hpl; rw [hP]; have HI := hide hgi; have HV := hide hrr.2; obtain ⟨Ar, cr, rfl, hr3, hr4, -⟩ := id hgi; unfold maxLen at hr4; have hrl := hrr.1; clear hrw hP hgi hrr; go_wp2_with fail
      obtain ⟨M, hM⟩ : ∃ M, row.length = M := ⟨_, rfl⟩; rw [hM] at hr3 hrl hgc HI; have HMl := hide hM; clear hM; go_loopw [3, 5] (fun t i wi => ∃ j : Nat, j ≤ M ∧ i = .int .i64 j ∧ t = .string ⟨(P ++ rowP row j).toArray⟩ ∧ Below wr.heap.size wr wi) (fun _ i _ => M - (intOf i).toNat)
      case atStart => exact ⟨0, Nat.zero_le _, rfl, by rw [← ba_append]; rfl, Below.refl _ _⟩
      case round =>
       obtain ⟨j, hj, rfl, rfl, hbj⟩ := hrel; have x0 := keepcHp hbj x0; have x1 := keepcHp hbj x1; have xg := keepcHp hbj hgc; by_cases hlj : j < M
       · have hjl : j < row.length := by rw [HMl.out]; exact hlj
         obtain ⟨b2, o2, rfl, -, hx⟩ := ints_at (HI.out.below hbj) hjl; have hxv := HV.out row[j] (List.getElem_mem hjl); have hq1 := rowP_one row (by omega); have hq2 := rowP_more row j hjl; have hql := rowP_len row j (fun v hv => by have := HV.out v hv; omega) (by rw [HMl.out]; omega); have hQl : (P ++ rowP row j).length ≤ 812 := by rw [List.length_append]; omega
         have hQ1 : j = 0 → P ++ rowP row (j + 1) = (P ++ rowP row j) ++ dec row[j] := fun h => by
          subst h; rw [hq1, List.append_assoc]
         have hQ2 : j ≠ 0 → P ++ rowP row (j + 1) = ((P ++ rowP row j) ++ [44]) ++ dec row[j] := fun h => by
          rw [hq2 h]; simp
         obtain ⟨x, hxx⟩ : ∃ x, row[j] = x := ⟨_, rfl⟩; rw [hxx] at hx hxv hQ1 hQ2; have hdl := dec_lenHp (v := x) (by omega) (by omega); obtain ⟨Q, hQ⟩ : ∃ Q, P ++ rowP row j = Q := ⟨_, rfl⟩; rw [hQ] at hQl hQ1 hQ2; rw [hQ]; have HQ1 := hide hQ1; have HQ2 := hide hQ2; clear hq1 hq2 hql hQ1 hQ2 hxx hQ hjl; by_cases hj0 : j = 0
         · have HK := hide (HQ1.out hj0)
           have q1 : ¬ 0 < j := by omega
           clear hj0; go_wp2_with fail
           (with_reducible refine (rDigits_c x _ (by omega) (by omega)).mono ?_); rintro e w8 ⟨rfl, hb8⟩; go_wp2; go_roundw
           case rel => exact ⟨j + 1, by omega, by go_num, by rw [HK.out, ← ba_append], bcall hbj hb8⟩
           case measure => simp [intOf]; omega
         · have HK := hide (HQ2.out hj0)
           have q1 : 0 < j := by omega
           clear hj0; go_wp2_with fail
           (with_reducible refine (rDigits_c x _ (by omega) (by omega)).mono ?_); rintro e w8 ⟨rfl, hb8⟩; go_wp2; go_roundw
           case rel => exact ⟨j + 1, by omega, by go_num, by rw [HK.out, ← ba_append, ← ba_append], bcall hbj hb8⟩
           case measure => simp [intOf]; omega
       · have HK := hide (show P ++ rowP row j = headP n ls (k + 1) by
          rw [HM.out, rowP_end row j (by rw [HMl.out]; omega) (by intro h; have := HMl.out; rw [h] at this; simp at this; omega)])
         rw [HK.out]; go_wp2; go_roundw
         case rel => exact ⟨k + 1, by omega, by go_num, rfl, bcall hb hbj⟩
         case measure => simp [intOf]; omega
    · have HK := hide (show headP n ls k = hTextF n ls by rw [HTX.out, show k = ls.length by omega])
      rw [HK.out]; go_wp2; go_ret
      exact ⟨rfl, hbw⟩
 · have hF : rightF n ls = false := by simpa using hR
   have HTX := hide (show hTextF n ls = [63] by unfold hTextF; rw [hF]; rfl); rw [hF]; clear hR hF; go_wp2; go_ret
   exact ⟨by rw [HTX.out]; rfl, hb02⟩
end Go.Proofs.YtjbaiibbgplljaaGreatDoor
namespace Go.Proofs.YtjbaiibbgplljaaGreatDoor
open Go.RowKit
theorem rpWithin_any (n a b : Int) (w : World) : Calls Tryz.prog 51 #[.int .i64 n, .int .i64 a, .int .i64 b] w fun e w' => e = .returned (.bool (inP n a b)) ∧ w' = w := by
 by_cases h : a ≤ n <;> by_cases k : n ≤ b
 all_goals
  have HF := hide (show inP n a b = _ by simp only [inP, h, k, and_self, and_true, and_false, decide_true, decide_false]; rfl); go_enter Tryz.func51, Tryz.ntmps51
  go_wp2; go_ret
  exact ⟨ret_bool HF.out.symm, rfl⟩
theorem rpRegs_any (v : Value) (l : List Int) (n : Nat) (w : World) (h : Ints w v l) : Calls Tryz.prog 55 #[v, .int .i64 n] w fun e w' => e = .returned (.bool (regsF n l)) ∧ w' = w := by
 have HI := hide h; obtain ⟨A, m, rfl, hm1, hm2, -⟩ := id h; unfold maxLen at hm2; clear h; go_enter Tryz.func55, Tryz.ntmps55
 go_wp2; go_loopw [5] (fun iv wr => ∃ i : Nat, i ≤ l.length ∧ iv = .int .i64 i ∧ wr = w ∧ Hid ((l.take i).all (fun x => decide (0 ≤ x ∧ x ≤ (n : Int))) = true)) (fun iv _ => l.length - (intOf iv).toNat)
 case atStart => exact ⟨0, Nat.zero_le _, rfl, rfl, hide rfl⟩
 case round =>
  obtain ⟨i, hi, rfl, rfl, HK⟩ := hrel; by_cases hlt : i < l.length
  · obtain ⟨b, off, rfl, -, hc⟩ := ints_at HI.out hlt
    have hn := regs_take hlt HK.out; have hs := regs_stop (n := n) hlt; generalize l[i] = x at *; cases hin : inP x 0 n
    · have HS := hide (hs hin)
      have H1 := hide hin; clear hn hs hin; go_wp2_with fail
      (with_reducible refine (rpWithin_any x 0 n _).mono ?_); rintro e w2 ⟨rfl, rfl⟩; rw [H1.out]; go_wp2; go_ret
      exact ⟨ret_bool HS.out.symm, rfl⟩
    · have HN := hide (hn.trans hin)
      have H1 := hide hin; clear hn hs hin; go_wp2_with fail
      (with_reducible refine (rpWithin_any x 0 n _).mono ?_); rintro e w2 ⟨rfl, rfl⟩; rw [H1.out]; go_wp2; go_roundw
      case rel => exact ⟨i + 1, by omega, by go_num, trivial, HN⟩
      case measure => simp [intOf]; omega
  · have HE := hide (regs_end (n := n) (l := l) (by have := HK.out; rwa [List.take_of_length_le (by omega)] at this))
    go_wp2_with fail
    (with_reducible refine (rpWithin_any _ 1 4 _).mono ?_); rintro e w2 ⟨rfl, rfl⟩; go_wp2; go_ret
    exact ⟨ret_bool HE.out.symm, rfl⟩
theorem joinC_snoc (c : UInt8) : ∀ (l : List B8) (p : B8), l ≠ [] → joinC c (l ++ [p]) = joinC c l ++ c :: p
 | [], _, h => absurd rfl h
 | [a], p, _ => rfl
 | a :: b :: l, p, _ => by
   have := joinC_snoc c (b :: l) p (by simp); simp only [List.cons_append, joinC] at this ⊢; rw [this]; simp
theorem nums_take (c : UInt8) {l : List Int} {i : Nat} (h : i < l.length) : numsT c (l.take (i + 1)) = (if i = 0 then dec l[i] else numsT c (l.take i) ++ c :: dec l[i]) := by
 unfold numsT; rw [List.take_succ_eq_append_getElem h, List.map_append]; by_cases h0 : i = 0
 · subst h0; rfl
 · rw [if_neg h0]
   exact joinC_snoc c _ _ (by intro e; rw [List.map_eq_nil_iff, List.take_eq_nil_iff] at e; rcases e with e | e; exact h0 e; rw [e] at h; simp at h)
theorem mil_len {x : Int} (h : Mil x) : (dec x).length ≤ 7 := dec_lenPl 7 x.toNat (by have := h.2; omega) (by decide)
theorem nums_len (c : UInt8) {l : List Int} (h : ∀ x ∈ l, Mil x) : ∀ i : Nat, i ≤ l.length → (numsT c (l.take i)).length ≤ 8 * i
 | 0, _ => by simp [numsT, joinC]
 | i + 1, hi => by
   have h1 := nums_len c h i (by omega); have h2 := mil_len (h (l[i]'(by omega)) (List.getElem_mem _)); rw [nums_take c (by omega)]; split
   · omega
   · simp only [List.length_append, List.length_cons]; omega
theorem rpNums_any (v : Value) (l : List Int) (c : UInt8) (w : World) (h : Ints w v l) (hl : ∀ x ∈ l, Mil x) (h8 : l.length ≤ 8) : Calls Tryz.prog 65 #[v, .string ⟨#[c]⟩] w fun e w' => e = .returned (.string ⟨(numsT c l).toArray⟩) ∧ Below w.heap.size w w' := by
 have HI := hide h; have HL := hide hl; obtain ⟨A, m, rfl, hm1, hm2, -⟩ := id h; unfold maxLen at hm2; clear h hl; go_enter Tryz.func65, Tryz.ntmps65
 go_wp2; go_loopw [5, 6] (fun sv iv wr => ∃ i : Nat, i ≤ l.length ∧ iv = .int .i64 i ∧ sv = .string ⟨(numsT c (l.take i)).toArray⟩ ∧ Below w.heap.size w wr) (fun _ iv _ => l.length - (intOf iv).toNat)
 case atStart => exact ⟨0, Nat.zero_le _, rfl, rfl, Below.refl _ _⟩
 case round =>
  obtain ⟨i, hi, rfl, rfl, hb⟩ := hrel; by_cases hlt : i < l.length
  · obtain ⟨b, off, rfl, -, hc⟩ := ints_at (HI.out.below hb) hlt
    have hT := nums_take c hlt; have hTl := nums_len c HL.out i (by omega); have hxm := HL.out l[i] (List.getElem_mem hlt); obtain ⟨x, hx⟩ : ∃ x, l[i] = x := ⟨_, rfl⟩; rw [hx] at hT hxm hc; have hdl := mil_len hxm; obtain ⟨hx0, hx1⟩ := hxm; obtain ⟨T, hTT⟩ : ∃ T, numsT c (l.take i) = T := ⟨_, rfl⟩; rw [hTT] at hT hTl ⊢; by_cases hi0 : i = 0
    · rw [if_pos hi0] at hT
      have HTT := hide hT; have HT0 := hide (show T = [] by rw [← hTT, hi0]; rfl); have hii : ¬ 0 < i := by omega
      clear hT hx hTT hi0; go_wp2_with fail
      (with_reducible refine (rDigits_c x _ hx0 (by omega)).mono ?_); rintro e w2 ⟨rfl, hb2⟩; have hb3 := bcall hb hb2; go_wp2; go_roundw
      case rel => exact ⟨i + 1, by omega, by go_num, by rw [HTT.out, HT0.out]; congr 1, hb3⟩
      case measure => simp [intOf]; omega
    · rw [if_neg hi0] at hT
      have HTT := hide hT; have hii : 0 < i := by omega
      clear hT hx hTT hi0; go_wp2_with fail
      (with_reducible refine (rDigits_c x _ hx0 (by omega)).mono ?_); rintro e w2 ⟨rfl, hb2⟩; have hb3 := bcall hb hb2; go_wp2; go_roundw
      case rel => exact ⟨i + 1, by omega, by go_num, by rw [HTT.out]; congr 1; apply ByteArray.ext; simp [ByteArray.data_append], hb3⟩
      case measure => simp [intOf]; omega
  · have HF := hide (show numsT c l = numsT c (l.take i) by rw [List.take_of_length_le (by omega)])
    go_wp2; go_ret
    exact ⟨cret (by rw [HF.out]), hb⟩
theorem num_short {l : B8} (h : l.length < 1 ∨ 7 < l.length) : numN l = -1 := by unfold numN; rw [if_pos h]
theorem num_bad {l : B8} (h : ¬ (l.length < 1 ∨ 7 < l.length)) (hd : l.all dgt = false) : numN l = -1 := by unfold numN; rw [if_neg h, hd]; rfl
theorem num_great {l : B8} (hd : l.all dgt = true) (h : 1000000 < valD 0 l ∨ Go.Lib.decDigits (valD 0 l).toNat ≠ l) : numN l = -1 := by
 unfold numN; rw [if_pos hd, if_pos h]; split <;> rfl
theorem num_good {l : B8} (h0 : ¬ (l.length < 1 ∨ 7 < l.length)) (hd : l.all dgt = true) (h : ¬ (1000000 < valD 0 l ∨ Go.Lib.decDigits (valD 0 l).toNat ≠ l)) : numN l = valD 0 l := by
 unfold numN; rw [if_neg h0, if_pos hd, if_neg h]
theorem ten_pow {k : Nat} (h : k ≤ 7) : (10 : Int) ^ k ≤ 10000000 := by
 have : ∀ n : Fin 8, (10 : Int) ^ n.val ≤ 10000000 := by decide
 exact this ⟨k, by omega⟩
theorem rNum_any (p : ByteArray) (w : World) (hp : p.size ≤ 9223372036854775807) :
 Calls Tryz.prog 76 #[.string p] w fun e w' => e = .returned (.int .i64 (numN p.data.toList)) ∧ Below w.heap.size w w' := by
 obtain ⟨sb, hsb, hsr⟩ : ∃ sb : Nat → Int, (∀ n (h : n < p.size), ((p[n]'h).toNat : Int) = sb n) ∧ ∀ n, 0 ≤ sb n ∧ sb n ≤ 255 := by
  refine ⟨fun n => if h : n < p.size then ((p[n]'h).toNat : Int) else 0, fun n h => by simp [h], fun n => ?_⟩; dsimp only; split
  · next h => have := UInt8.toNat_lt (p[n]'h); omega
  · omega
 have htl : p.data.toList.length = p.size := by rw [Array.length_toList]; rfl
 obtain ⟨L, hL⟩ : ∃ L, p.data.toList = L := ⟨_, rfl⟩; rw [hL] at htl; rw [hL]; have HL := hide hL; have HTL := hide htl; clear hL; by_cases h1 : p.size < 1
 · have HN := hide (num_short (l := L) (.inl (by omega)))
   rw [HN.out]; clear htl; go_enter Tryz.func76, Tryz.ntmps76
   go_wp2; go_ret
   exact ⟨rfl, Below.refl _ _⟩
 · by_cases h7 : 7 < p.size
   · have HN := hide (num_short (l := L) (.inr (by omega)))
     rw [HN.out]; clear htl; have q : decide (p.size < 1) = false := decide_eq_false h1; go_enter Tryz.func76, Tryz.ntmps76
     go_wp2; go_ret
     exact ⟨rfl, Below.refl _ _⟩
   · have h0 := hide (show ¬ (L.length < 1 ∨ 7 < L.length) by omega)
     obtain ⟨R, hR⟩ : ∃ R, numN L = R := ⟨_, rfl⟩; rw [hR]; have HR := hide hR; clear htl hR; have q : decide (p.size < 1) = false := decide_eq_false h1; have q' : decide (7 < p.size) = false := decide_eq_false h7; go_enter Tryz.func76, Tryz.ntmps76
     go_wp2; go_loop [3, 4] (fun n i => ∃ (k : Nat) (N P : Int), k ≤ p.size ∧ i = .int .i64 k ∧ n = .int .i64 N ∧ 0 ≤ N ∧ N < P ∧ P ≤ 10000000 ∧ Hid (P = (10 : Int) ^ k) ∧ Hid (valD N (L.drop k) = valD 0 L) ∧ Hid ((L.take k).all dgt = true)) (fun _ i => p.size - (intOf i).toNat)
     case atStart => exact ⟨0, 0, 1, Nat.zero_le _, rfl, rfl, by omega, by omega, by omega, hide (by simp), hide (by simp), hide (by simp)⟩
     case round =>
      obtain ⟨k, N, P, hk, rfl, rfl, hN0, hN1, hP, HP, HV, HD⟩ := hrel; by_cases hlt : k < p.size
      · have hkL : k < L.length := by rw [HTL.out]; exact hlt
        obtain ⟨b, hbd, hbx⟩ : ∃ b : UInt8, L.drop k = b :: L.drop (k + 1) ∧ (b.toNat : Int) = sb k := by
         refine ⟨p[k]'hlt, ?_, hsb k hlt⟩; rw [List.drop_eq_getElem_cons hkL]; congr 1
         simp only [← HL.out]; rfl
        have hb0 : L[k]? = some b := by
         have := congrArg (fun x => x[0]?) hbd; simpa [List.getElem?_drop] using this
        obtain ⟨r0, r1⟩ := hsr k; have hv := HV.out; rw [hbd] at hv; by_cases hd : 48 ≤ sb k ∧ sb k ≤ 57
        · have q1 : decide (sb k < 48) = false := decide_eq_false (by omega)
          have q2 : decide (57 < sb k) = false := decide_eq_false (by omega); have HV2 := hide (show valD (N * 10 + (sb k - 48)) (L.drop (k + 1)) = valD 0 L by rw [← hbx]; exact hv); have HD2 := hide (show (L.take (k + 1)).all dgt = true by
           rw [List.take_add_one, hb0, List.all_append, HD.out]; simp only [Option.toList_some, List.all_cons, List.all_nil, Bool.true_and, Bool.and_true, dgt, Bool.and_eq_true, decide_eq_true_eq]; omega)
          have hp7 := ten_pow (k := k + 1) (by omega); have HP2 := hide (show P * 10 = (10 : Int) ^ (k + 1) by rw [Int.pow_succ, HP.out]); have hP2 : P * 10 ≤ 10000000 := by rw [HP2.out]; exact hp7
          obtain ⟨hd1, hd2⟩ := hd; clear hbd hbx hb0 hv hp7; go_wp2; go_round
          case rel => exact ⟨k + 1, N * 10 + (sb k - 48), P * 10, by omega, by go_num, rfl, by omega, by omega, hP2, HP2, HV2, HD2⟩
          case measure => simp [intOf]; omega
        · have HN := hide (num_bad h0.out (show L.all dgt = false by
           rw [List.all_eq_false]; refine ⟨b, List.mem_of_getElem? hb0, ?_⟩; simp only [dgt, Bool.and_eq_true, decide_eq_true_eq]; omega))
          have HR2 := hide (HR.out.symm.trans HN.out); clear hbd hbx hb0 hv; by_cases hlo : sb k < 48
          · go_wp2
            go_ret
            exact ⟨ret_int HR2.out.symm, Below.refl _ _⟩
          · have q1 : decide (sb k < 48) = false := decide_eq_false hlo
            have q2 : decide (57 < sb k) = true := decide_eq_true (by omega); clear hd; go_wp2; go_ret
            exact ⟨ret_int HR2.out.symm, Below.refl _ _⟩
      · obtain rfl : k = p.size := by omega
        have hv := HV.out; rw [List.drop_eq_nil_of_le (show L.length ≤ p.size by rw [HTL.out]; exact Nat.le_refl _), valD] at hv; have hd := HD.out; rw [List.take_of_length_le (show L.length ≤ p.size by rw [HTL.out]; exact Nat.le_refl _)] at hd; have HV := hide hv; have HD := hide hd; clear hv hd; by_cases hg : 1000000 < N
        · have HR2 := hide (HR.out.symm.trans (num_great HD.out (.inl (by rw [← HV.out]; exact hg))))
          go_wp2; go_ret
          exact ⟨ret_int HR2.out.symm, Below.refl _ _⟩
        · have q3 : decide (1000000 < N) = false := decide_eq_false hg
          go_wp2_with fail
          (with_reducible refine (rDigits_c N _ hN0 (by omega)).mono ?_); rintro e w5 ⟨rfl, hb5⟩; by_cases heq : dec N = L
          · have hte : (⟨(dec N).toArray⟩ : ByteArray) = p := by rw [heq, ← HL.out]
            rw [hte]; have hng : ¬ (1000000 < valD 0 L ∨ Go.Lib.decDigits (valD 0 L).toNat ≠ L) := by
             rw [← HV.out]; rintro (h | h)
             · omega
             · exact h heq
            have HR2 := hide (HR.out.symm.trans (num_good h0.out HD.out hng)); clear hng; have HV2 := hide (HR2.out.trans HV.out.symm); clear heq hte; go_wp2; go_ret
            exact ⟨ret_int HV2.out.symm, hb5⟩
          · have HR2 := hide (HR.out.symm.trans (num_great HD.out (.inr (by rw [← HV.out]; exact heq))))
            obtain ⟨T, hT⟩ : ∃ T : ByteArray, (⟨(dec N).toArray⟩ : ByteArray) = T := ⟨_, rfl⟩; have hne : (T.toList == p.toList) = false := by rw [beq_eq_false_iff_ne, ← hT, ByteArray.toList_eq, ByteArray.toList_eq, HL.out]; simpa using heq
            rw [hT]; clear heq hT; go_wp2; go_ret
            exact ⟨ret_int HR2.out.symm, hb5⟩
theorem rCut_bar (t : ByteArray) (w : World) (ht : t.size ≤ 1048576) :
 Calls Tryz.prog 26 #[.string t, .int .u8 124] w fun e w' => ∃ v, e = .returned v ∧ w'.ownsRow w.heap.size 9 1 v (cutG 124 [] t.data.toList).length ((cutG 124 [] t.data.toList).flatMap tcRf) ∧ Below w.heap.size w w' := rCut_any t 124 w ht
theorem rCut_comma (q : B8) (w : World) (ht : q.length ≤ 1048576) :
 Calls Tryz.prog 26 #[.string ⟨q.toArray⟩, .int .u8 44] w fun e w' => ∃ v, e = .returned v ∧ w'.ownsRow w.heap.size 9 1 v (cutG 44 [] q).length ((cutG 44 [] q).flatMap tcRf) ∧ Below w.heap.size w w' := rCut_any ⟨q.toArray⟩ 44 w ht
theorem rNum_l (q : B8) (w : World) (hq : q.length ≤ 9223372036854775807) :
 Calls Tryz.prog 76 #[.string ⟨q.toArray⟩] w fun e w' => e = .returned (.int .i64 (numN q)) ∧ Below w.heap.size w w' := rNum_any ⟨q.toArray⟩ w hq
theorem pcs_at {w : World} {A : Option Addr} {n c k : Nat} {l : List B8} (h : Pcs w (.slice A n c) l) (hk : k < l.length) :
 ∃ b off, A = some ⟨b, off, none⟩ ∧ b < w.heap.size ∧ w.cell? ⟨b, off + k, none⟩ = some (.string ⟨l[k].toArray⟩) := by
 obtain ⟨A', c', e, h1, h2, h3⟩ := h; injection e with e1 e2 e3; subst e1; obtain ⟨b, off, rfl, hb, hc⟩ := h3 (by omega); refine ⟨b, off, rfl, hb, ?_⟩; have := hc k l[k] (List.getElem?_eq_getElem hk) 0 (.string ⟨l[k].toArray⟩) rfl; simpa using this
theorem pcs_cell {w : World} {b off n c k : Nat} {l : List B8} (h : Pcs w (.slice (some ⟨b, off, none⟩) n c) l) (hk : k < l.length) : w.cell? ⟨b, off + k, none⟩ = some (.string ⟨l[k].toArray⟩) := by
 obtain ⟨b', off', e, -, h1⟩ := pcs_at h hk; injection e with e; injection e with e1 e2; subst e1; subst e2; exact h1
theorem nums_step (Q : List B8) (x : Nat) (h : x < Q.length) : ((Q.take (x + 1)).map numN).flatMap ic = ((Q.take x).map numN).flatMap ic ++ [.int .i64 (numN Q[x])] := by
 rw [List.take_succ_eq_append_getElem h, List.map_append, List.flatMap_append]; rfl
def RParseO (L : B8) (w : World) (e : Ending) (w' : World) : Prop :=
 ∃ (n : Int) (R : Rws) (x : Int) (v : Value), ((heapF L = some (n, R) ∧ x = 0) ∨ (heapF L = none ∧ n = 0 ∧ R = [] ∧ x = 2)) ∧ e = .returned (.tuple #[hv n v, .int .i64 x]) ∧ OwnRows 67 3 w.heap.size w' v R ∧ Below w.heap.size w w'
def Bh (S : Nat) (n : Int) (v : Value) (w : World) : Prop := w.cell? ⟨S, 0, none⟩ = some (.int .i64 n) ∧ w.cell? ⟨S, 1, none⟩ = some v ∧ w.frozen? ⟨S, 0, none⟩ = false ∧ w.frozen? ⟨S, 1, none⟩ = false
theorem rParse_own (t : ByteArray) (w : World) (ht : t.size ≤ 1048576) :
 Calls Tryz.prog 29 #[.string t] w (RParseO t.data.toList w) := by
 have htl : t.data.toList.length = t.size := by rw [Array.length_toList]; rfl
 have hread := heapF_read t.data.toList; obtain ⟨L, hL⟩ : ∃ L, t.data.toList = L := ⟨_, rfl⟩; rw [hL] at hread htl; rw [hL]; have HL := hide hL; obtain ⟨P, hP⟩ : ∃ P, cutG 124 [] L = P := ⟨_, rfl⟩; have hPne : 0 < P.length := by rw [← hP]; exact List.length_pos_iff.2 (cutG_ne 124 L [])
 have hPle : P.length ≤ L.length + 1 := by rw [← hP]; exact cutG_len 124 L []
 have HPS := hide (show ∀ p ∈ P, p.length ≤ 1048576 by
  intro p hp; rw [← hP] at hp; have := cutG_size 124 L [] p hp; simp at this; omega)
 have hhead : headN L = numN P[0] := by unfold headN; rw [hP, List.headD_eq_head?_getD, List.head?_eq_getElem?, List.getElem?_eq_getElem hPne]; rfl
 have hrows : rowsN L = (P.drop 1).map rowN := by unfold rowsN; rw [hP]
 have HP := hide (show cutG 124 [] t.data.toList = P by rw [hL]; exact hP); obtain ⟨n0, hn0⟩ : ∃ n, headN L = n := ⟨_, rfl⟩; obtain ⟨RR, hRR⟩ : ∃ R, rowsN L = R := ⟨_, rfl⟩; rw [hn0, hRR] at hread; rw [hn0] at hhead; rw [hRR] at hrows; have hRl : RR.length + 1 = P.length := by rw [hrows, List.length_map, List.length_drop]; omega
 have HREAD := hide hread; have HHEAD := hide hhead; have HROWS := hide hrows; have HTL := hide htl; have hPb : P.length ≤ 1048577 := by omega
 have HRl := hide hRl; clear hL hread hP hhead hrows hn0 hRR htl hRl; obtain ⟨w1, e1, hb1, hlt1, -, r0, r1⟩ := box1Hp w (.int .i64 0) (.slice none 0 0) 36; have z0 : w1.frozen? ⟨w.heap.size, 0, none⟩ = false := by rw [← e1]; exact frozen_of_row _ _ 0 #[.int .i64 0, .slice none 0 0] _ (heap_alloc_new w _)
 have z1 : w1.frozen? ⟨w.heap.size, 1, none⟩ = false := by rw [← e1]; exact frozen_of_row _ _ 1 #[.int .i64 0, .slice none 0 0] _ (heap_alloc_new w _)
 have HE1 := hide e1; clear e1; go_enter Tryz.func29, Tryz.ntmps29
 go_wp2_with fail
 rw [HE1.out]; (with_reducible refine (rCut_bar t w1 ht).mono ?_); rintro e w2 ⟨v, rfl, hown, hb2⟩; rw [HP.out] at hown; have HC2 := hide (show Pcs w2 v P from Sl.of_own tc_len hown); obtain ⟨A, c, rfl, hc1, hc2⟩ := own_form hown; unfold maxLen at hc2; obtain ⟨b0, o0, rfl, -, p0⟩ := pcs_at HC2.out hPne; rw [Nat.add_zero] at p0; have hp0 := HPS.out P[0] (List.getElem_mem hPne); have HNM := hide (rNum_l P[0] w2 (by omega)); rw [HHEAD.out.symm] at HNM; generalize P[0] = q0 at *; clear hown; go_wp2_with fail
 (with_reducible refine HNM.out.mono ?_); rintro e w3 ⟨rfl, hb3⟩; have hb23 := bcall hb2 hb3; have hs3 := hb23.size; have r0 := keepcHp hb23 r0; have r1 := keepcHp hb23 r1; have z0 := keepfHp hb23 (show w1.cell? ⟨w.heap.size, 0, none⟩ = some (.int .i64 0) from by rw [← HE1.out]; exact row_new w [.int .i64 0, .slice none 0 0] _ 0 _ rfl) z0; have z1 := keepfHp hb23 (show w1.cell? ⟨w.heap.size, 1, none⟩ = some (.slice none 0 0) from by rw [← HE1.out]; exact row_new w [.int .i64 0, .slice none 0 0] _ 1 _ rfl) z1; have HC3 := hide (HC2.out.below hb3); have hB3 := bcall hb1 hb23; obtain ⟨w4, e4, hb4, hlt4, -, u0, u1⟩ := box1Hp w3 (.int .i64 n0) (.slice none 0 0) 36; have y0 : w4.frozen? ⟨w3.heap.size, 0, none⟩ = false := by rw [← e4]; exact frozen_of_row _ _ 0 #[.int .i64 n0, .slice none 0 0] _ (heap_alloc_new w3 _)
 have y1 : w4.frozen? ⟨w3.heap.size, 1, none⟩ = false := by rw [← e4]; exact frozen_of_row _ _ 1 #[.int .i64 n0, .slice none 0 0] _ (heap_alloc_new w3 _)
 have hs4 : w4.heap.size = w3.heap.size + 1 := by rw [← e4]; simp
 have HE4 := hide e4; have HB4 := hide (show Bh w3.heap.size n0 (.slice none 0 0) w4 from ⟨u0, u1, y0, y1⟩); have HS4 := hide (show w3.heap.size + 1 ≤ w4.heap.size by omega); have hw3 : w.heap.size < w3.heap.size := by omega
 clear e4 u0 u1 y0 y1 hs4 p0 HNM HC2 HP; go_wp2_with fail
 rw [HE4.out]; go_loopw [6] (fun i wr => ∃ (k : Nat) (A' : Option Addr) (c' : Nat), k + 1 ≤ P.length ∧ i = .int .i64 ((k : Int) + 1) ∧ k ≤ c' ∧ c' ≤ 9223372036854775807 ∧ Hid (Bh w3.heap.size n0 (.slice A' k c') wr) ∧ Hid (∃ vs, OwnGrid 67 3 (w3.heap.size + 1) wr (.slice A' k c') vs (RR.take k)) ∧ Hid (Below w3.heap.size w3 wr) ∧ Hid (w3.heap.size + 1 ≤ wr.heap.size)) (fun i _ => P.length - (intOf i).toNat)
 case atStart =>
  exact ⟨0, none, 0, hPne, rfl, Nat.le_refl _, by omega, HB4, hide ⟨[], World.ownsRow_nil _ _ _ _, rfl, by simp, by simp, by simp⟩, hide hb4, HS4⟩
 case round =>
  obtain ⟨k, A', c', hk, rfl, hc1', hc2', HX, HV, HBW, HSZ⟩ := hrel; by_cases hlt : k + 1 < P.length
  · obtain ⟨x0, x1, x2, x3⟩ := HX.out
    have hRk : k < RR.length := by have := HRl.out; omega
    have p1 := pcs_cell (HC3.out.below HBW.out) hlt; have hrow : RR[k] = rowN P[k + 1] := by
     have h := HROWS.out; subst h; simp
    have hq1 := HPS.out P[k + 1] (List.getElem_mem hlt); obtain ⟨l, hl⟩ : ∃ l, RR[k] = l := ⟨_, rfl⟩; have HT := hide (show RR.take (k + 1) = RR.take k ++ [l] by rw [List.take_succ_eq_append_getElem hRk, hl]); rw [hl] at hrow; clear hl; generalize P[k + 1] = q1 at *; obtain ⟨Q, hQ⟩ : ∃ Q, cutG 44 [] q1 = Q := ⟨_, rfl⟩; have HQ := hide hQ; have hQl : Q.length ≤ 1048577 := by rw [← hQ]; have := cutG_len 44 q1 []; omega
    have HQS := hide (show ∀ p ∈ Q, p.length ≤ 1048576 by
     intro p hp; rw [← hQ] at hp; have := cutG_size 44 q1 [] p hp; simp at this; omega)
    have HLQ := hide (show l = Q.map numN by rw [hrow, ← hQ]; rfl); clear hrow hQ; have hsz := HSZ.out; go_wp2_with fail
    (with_reducible refine (rCut_comma q1 _ hq1).mono ?_); rintro e w5 ⟨v5, rfl, hown5, hb5⟩; rw [HQ.out] at hown5; have HC5 := hide (show Pcs w5 v5 Q from Sl.of_own tc_len hown5); obtain ⟨A5, c5, rfl, hd1, hd2⟩ := own_form hown5; unfold maxLen at hd2; have hs5 := hb5.size; clear hown5; obtain ⟨j0, hj, jz0, jz1, jz2⟩ := info_parts infoInt; go_wp2; go_loopw [8, 9] (fun lv j wr2 => ∃ x : Nat, x ≤ Q.length ∧ j = .int .i64 x ∧ Hid (wr2.ownsRow w5.heap.size 3 1 lv x (((Q.take x).map numN).flatMap ic)) ∧ Hid (Below w5.heap.size w5 wr2)) (fun _ j _ => Q.length - (intOf j).toNat)
    case atStart => exact ⟨0, Nat.zero_le _, rfl, hide (World.ownsRow_nil _ _ _ _), hide (Below.refl _ _)⟩
    case round =>
     obtain ⟨x, hx, rfl, HR, HBI⟩ := hrel; have hsi := HBI.out.size; by_cases hxl : x < Q.length
     · obtain ⟨b5, o5, rfl, -, p5⟩ := pcs_at (HC5.out.below HBI.out) hxl
       have HST := hide (nums_step Q x hxl); have hqs := HQS.out Q[x] (List.getElem_mem hxl); generalize Q[x] = q5 at *; go_wp2_with fail
       (with_reducible refine (rNum_l q5 _ (by omega)).mono ?_); rintro e w6 ⟨rfl, hb6⟩; have hs6 := hb6.size; have HR6 := hide (own_below HR.out hb6); generalize numN q5 = y5 at *; go_wp2_with (at_builtin; refine wpList_append_own _ rfl _ _ 67 rfl w5.heap.size 3 j0 (.int .i64 0) 1 8 Tryz.underlying67 hj jz0 jz1 jz2 rfl (by decide) _ _ _ rfl (HR6.out.alloc _) ⟨_, 0, none⟩ 1 1 [.int .i64 y5] rfl rfl (row_at _ _ _ (by simp)) (by simp [Value.oneCell']) (by simp only [maxLen]; omega) (by omega) (by simp; omega) ?_; intro v7 w7 hown7 hgrow7 _)
       go_roundw
       case rel => exact ⟨x + 1, by omega, by go_num, hide (by rw [HST.out]; exact hown7), hide (((HBI.out.trans (hb6.mono hsi)).alloc (by omega) _).grown hgrow7 (by simp; omega) (own_ge HR6.out))⟩
       case measure => simp [intOf]; omega
     · have hR := HR.out
       rw [List.take_of_length_le (show Q.length ≤ x by omega), ← HLQ.out] at hR; have hxQ : x = l.length := by have := congrArg List.length HLQ.out; simp at this; omega
       rw [hxQ] at hR; obtain ⟨B, d, rfl, hd3, hd4⟩ := own_form hR; unfold maxLen at hd4; have hb52 := bcall hb5 HBI.out; have HU := hide hR; have x2 := keepfHp hb52 x0 x2; have x3 := keepfHp hb52 x1 x3; have x0 := keepcHp hb52 x0; have x1 := keepcHp hb52 x1; obtain ⟨vs, hO⟩ := HV.out; have hvl : vs.length = k := by have := hO.len; rw [List.length_take, Nat.min_eq_left (by omega)] at this; exact this
       have HOLD := hide (show ∀ (i : Nat) (u' : Value) (g : Nat), vs[i]? = some u' → u'.ownBlock = some g → g < w5.heap.size from fun i u' g hi hg => by
        have hil : i < (RR.take k).length := by rw [← hO.len]; exact (List.getElem?_eq_some_iff.1 hi).1
        have := ((hO.rows i u' _ hi (List.getElem?_eq_getElem hil)).lt g hg).2; omega)
       have HO2 := hide (hO.below hb52); have HTOP := hide (show wr.ownsRow (w3.heap.size + 1) 67 1 (.slice A' k c') k vs by have := HO2.out.top; rwa [hvl] at this); have HVL := hide hvl; have VB := hide (show ∀ b, (Value.slice A' k c').ownBlock = some b → w3.heap.size + 1 ≤ b from fun b hb => (HTOP.out.lt b hb).1); have hne : (Value.slice A' k c').ownBlock ≠ some w3.heap.size := fun h => by have := VB.out _ h; omega
       have KX := hide (show ∀ (o : Obj) (W : World), (wr.alloc o).grownBy W (Value.slice A' k c').ownBlock → Bh w3.heap.size n0 (.slice A' k c') W from fun o W hg =>
        ⟨keepg hg (keepcHp (balHp _ _) x0) hne, keepg hg (keepcHp (balHp _ _) x1) hne, keepgf hg (keepcHp (balHp _ _) x0) (keepfHp (balHp _ _) x0 x2) hne, keepgf hg (keepcHp (balHp _ _) x1) (keepfHp (balHp _ _) x1 x3) hne⟩)
       have hBall := hide (HBW.out.trans (hb52.mono (by omega))); obtain ⟨i0, hi, hz0, hz1, hz2⟩ := info_parts infoRow; clear hR hO hvl hne hx hxQ; have x1a : ∀ o, (wr.alloc o).cell? ⟨w3.heap.size, 1, none⟩ = some (.slice A' k c') := fun o => keepcHp (balHp _ _) x1
       go_wp2_with (at_builtin; refine wpList_append_own _ rfl _ _ 22 rfl (w3.heap.size + 1) 67 i0 (.slice none 0 0) 1 24 Tryz.underlying22 hi hz0 hz1 hz2 rfl (by decide) _ k vs rfl (HTOP.out.alloc _) ⟨_, 0, none⟩ 1 1 [.slice B l.length d] rfl rfl (row_at _ _ _ (by simp)) (by simp [Value.oneCell']) (by simp only [maxLen]; omega) (by omega) (by simp; omega) ?_; intro v7 w7 hown7 hgrow7 _; obtain ⟨A7, c7, rfl, hc7, hm7⟩ := own_form hown7; obtain ⟨g0, g1, g2, g3⟩ := KX.out _ _ hgrow7)
       have hs7 := hgrow7.size; unfold maxLen at hm7; have hG := OwnGrid.snoc (H := w5.heap.size) (l := l) (HO2.out.alloc _) (by decide) (by omega) HOLD.out (HU.out.alloc _) (by rw [HVL.out]; exact hown7) hgrow7; rw [← HT.out] at hG; have hB7 := (hBall.out.alloc (by omega) _).grown hgrow7 (by simp; omega) (fun b e => by have := VB.out b e; omega); go_roundw
       case rel =>
        refine ⟨k + 1, A7, c7, by omega, by go_num, by omega, by omega, hide ⟨by simp [go_sem, g0], by simp [go_sem, g1], by simp [go_sem, g2], by simp [go_sem, g3]⟩, hide ⟨_, hG.setCell_below (by simp) _⟩, hide (hB7.setCell (by simp) _), hide (by simp at hs7 ⊢; omega)⟩
       case measure => simp [intOf]; omega
  · obtain ⟨x0, x1, x2, x3⟩ := HX.out
    obtain rfl : k = RR.length := by have := HRl.out; omega
    obtain ⟨vs, hO⟩ := HV.out; rw [List.take_of_length_le (Nat.le_refl _)] at hO; have HG := hide hO.grid; have hO8 := hO; have z0 := keepfHp HBW.out r0 z0; have z1 := keepfHp HBW.out r1 z1; have r0 := keepcHp HBW.out r0; have r1 := keepcHp HBW.out r1; clear hO; have HOO := hide hO8; clear hO8; go_wp2_with fail
    (with_reducible refine (rText_anyRf n0 _ RR _ HG.out).mono ?_); rintro e w8 ⟨rfl, hb8⟩; have z0 := keepfHp hb8 r0 z0; have z1 := keepfHp hb8 r1 z1; have r0 := keepcHp hb8 r0; have r1 := keepcHp hb8 r1; have x0 := keepcHp hb8 x0; have x1 := keepcHp hb8 x1; have hB8 := hide (bcall hB3 (bcall HBW.out hb8)); have HO8 := hide (HOO.out.below hb8); by_cases heq : hTextF n0 RR = L
    · have hte : (⟨(hTextF n0 RR).toArray⟩ : ByteArray) = t := by rw [heq, ← HL.out]
      rw [hte]; by_cases hqm : L = [63]
      · have hno := hide (HREAD.out.trans (if_neg (fun h => h.2 hqm)))
        have hq : (t.toList == [63]) = true := by rw [beq_iff_eq, ByteArray.toList_eq, HL.out]; exact hqm
        clear heq hte; go_wp2; refine bodyPost_ret (v := .tuple #[hv 0 (.slice none 0 0), .int .i64 2]) (by simp [results, Tryz.results29, go_sem, r0, r1]) rfl ⟨0, [], 2, .slice none 0 0, .inr ⟨hno.out, rfl, rfl, rfl⟩, rfl, OwnRows.nil_, ?_⟩; exact (hB8.out.setCell (by simp) _).setCell (by simp) _
      · have hyes := hide (HREAD.out.trans (if_pos ⟨heq, hqm⟩))
        have hq : (t.toList == [63]) = false := by rw [beq_eq_false_iff_ne, ByteArray.toList_eq, HL.out]; exact hqm
        clear heq hte; go_wp2; refine bodyPost_ret (v := .tuple #[hv n0 (.slice A' RR.length c'), .int .i64 0]) (by simp [results, Tryz.results29, go_sem, r0, r1]) rfl ⟨n0, RR, 0, .slice A' RR.length c', .inl ⟨hyes.out, rfl⟩, rfl, ?_, ?_⟩
        · exact ((HO8.out.setCell_below (by simp; omega) _).setCell_below (by simp; omega) _).own (by omega)
        · exact (hB8.out.setCell (by simp) _).setCell (by simp) _
    · have hno := hide (HREAD.out.trans (if_neg (fun h => heq h.1)))
      obtain ⟨T, hT⟩ : ∃ T : ByteArray, (⟨(hTextF n0 RR).toArray⟩ : ByteArray) = T := ⟨_, rfl⟩; have hne : (T.toList == t.toList) = false := by rw [beq_eq_false_iff_ne, ← hT, ByteArray.toList_eq, ByteArray.toList_eq, HL.out]; simpa using heq
      rw [hT]; clear heq hT; go_wp2; refine bodyPost_ret (v := .tuple #[hv 0 (.slice none 0 0), .int .i64 2]) (by simp [results, Tryz.results29, go_sem, r0, r1]) rfl ⟨0, [], 2, .slice none 0 0, .inr ⟨hno.out, rfl, rfl, rfl⟩, rfl, OwnRows.nil_, ?_⟩; exact (hB8.out.setCell (by simp) _).setCell (by simp) _
def afterV : Option B8 → Value
 | none => .tuple #[.string ⟨#[]⟩, .bool false]
 | some r => .tuple #[.string ⟨r.toArray⟩, .bool true]
theorem after_short {w s : B8} (h : s.length ≤ w.length) : afterF w s = none := by
 unfold afterF; rw [if_neg]; intro e; rw [List.isPrefixOf_iff_prefix] at e; have := e.length_le; simp at this; omega
theorem after_is {w s : B8} (_h : ¬ s.length ≤ w.length) : afterF w s = if s.take (w.length + 1) = w ++ [32] then some (s.drop (w.length + 1)) else none := by
 unfold afterF; by_cases e : s.take (w.length + 1) = w ++ [32]
 · rw [if_pos e, if_pos]
   rw [List.isPrefixOf_iff_prefix, List.prefix_iff_eq_take]; simp only [List.length_append, List.length_singleton]; exact e.symm
 · rw [if_neg e, if_neg]
   intro e2; rw [List.isPrefixOf_iff_prefix, List.prefix_iff_eq_take] at e2; simp only [List.length_append, List.length_singleton] at e2; exact e e2.symm
theorem rpAfter_any (S W : B8) (w : World) (_hs : S.length ≤ 140737488351232) (hw : W.length ≤ 10) : Calls Tryz.prog 27 #[.string ⟨S.toArray⟩, .string ⟨W.toArray⟩] w fun e w' => e = .returned (afterV (afterF W S)) ∧ w' = w := by
 by_cases h : S.length ≤ W.length
 · have HA := hide (after_short h)
   go_enter Tryz.func27, Tryz.ntmps27
   go_wp2; go_ret2
   exact ⟨by rw [HA.out]; rfl, rfl⟩
 · have HA := hide (after_is h)
   have HX := hide (ext_sub ⟨S.toArray⟩ 0 (W.length + 1)); have HY := hide (ext_sub ⟨S.toArray⟩ (W.length + 1) S.length); have hcat : (⟨W.toArray⟩ : ByteArray) ++ ⟨#[32]⟩ = ⟨(W ++ [32]).toArray⟩ := by rw [ba_append]
   have hX : (⟨S.toArray⟩ : ByteArray).extract 0 (W.length + 1) = ⟨(S.take (W.length + 1)).toArray⟩ := by rw [HX.out]; simp
   have hY : (⟨S.toArray⟩ : ByteArray).extract (W.length + 1) S.length = ⟨(S.drop (W.length + 1)).toArray⟩ := by rw [HY.out, List.take_of_length_le (by simp)]
   by_cases hq : S.take (W.length + 1) = W ++ [32]
   · have HR := hide (show afterF W S = some (S.drop (W.length + 1)) by rw [HA.out, if_pos hq])
     have hQ : (((⟨S.toArray⟩ : ByteArray).extract 0 (W.length + 1)).toList == ((⟨W.toArray⟩ : ByteArray) ++ ⟨#[32]⟩).toList) = true := by
      rw [beq_iff_eq, hX, hcat, hq]
     have HYY := hide hY; clear hq hX hY hcat HA HX HY; go_enter Tryz.func27, Tryz.ntmps27
     go_wp2; go_ret2
     exact ⟨by rw [HR.out, HYY.out]; rfl, rfl⟩
   · have HR := hide (show afterF W S = none by rw [HA.out, if_neg hq])
     have hQ : (((⟨S.toArray⟩ : ByteArray).extract 0 (W.length + 1)).toList == ((⟨W.toArray⟩ : ByteArray) ++ ⟨#[32]⟩).toList) = false := by
      rw [beq_eq_false_iff_ne, Ne, hX, hcat]; intro e; rw [ByteArray.toList_eq, ByteArray.toList_eq] at e; exact hq (by simpa using e)
     clear hq hX hY hcat HA HX HY; go_enter Tryz.func27, Tryz.ntmps27
     go_wp2; go_ret2
     exact ⟨by rw [HR.out]; rfl, rfl⟩
theorem list_all {c : UInt8} {s : B8} : listFPl c s = if (((cut c s).map numN).all fun x => decide (0 ≤ x)) = true then some ((cut c s).map numN) else none := rfl
theorem list_none {c : UInt8} {s : B8} {Q : List B8} (hQ : cut c s = Q) {i : Nat} (hi : i < Q.length) (h : numN Q[i] < 0) : listFPl c s = none := by
 rw [list_all, hQ, if_neg]; intro e; have := List.all_eq_true.1 e (numN Q[i]) (List.mem_map_of_mem (List.getElem_mem hi)); rw [decide_eq_true_eq] at this; omega
theorem list_some {c : UInt8} {s : B8} {Q : List B8} (hQ : cut c s = Q) (h : ∀ x ∈ Q.map numN, 0 ≤ x) : listFPl c s = some (Q.map numN) := by
 rw [list_all, hQ, if_pos]; rw [List.all_eq_true]; exact fun x hx => by rw [decide_eq_true_eq]; exact h x hx
def LRead (c : UInt8) (S : B8) (w : World) (e : Ending) (w' : World) : Prop :=
 ∃ (v : Value) (l : List Int) (b : Bool), ((listFPl c S = some l ∧ b = true) ∨ (listFPl c S = none ∧ l = [] ∧ b = false)) ∧ e = .returned (.tuple #[v, .bool b]) ∧ w'.ownsRow w.heap.size 3 1 v l.length (l.flatMap ic) ∧ Below w.heap.size w w'
theorem rpList_any (S : B8) (c : UInt8) (w : World) (hs : S.length ≤ 1048576) : Calls Tryz.prog 28 #[.string ⟨S.toArray⟩, .int .u8 c.toNat] w (LRead c S w) := by
 obtain ⟨Q, hQ⟩ : ∃ Q, cut c S = Q := ⟨_, rfl⟩; have HQ0 := hide hQ; have HQ := hide ((cutG_cut c S).trans hQ); have hQl : Q.length ≤ 1048577 := by rw [← HQ.out]; have := cutG_len c S []; omega
 have HQS := hide (show ∀ p ∈ Q, p.length ≤ 1048576 by
  intro p hp; rw [← HQ.out] at hp; have := cutG_size c S [] p hp; simp at this; omega)
 have HCUT := hide (rCut_any ⟨S.toArray⟩ c w hs); clear hQ; go_enter Tryz.func28, Tryz.ntmps28
 go_wp2_with fail
 (with_reducible refine HCUT.out.mono ?_); rintro e w5 ⟨v5, rfl, hown5, hb5⟩; rw [HQ.out] at hown5; have HC5 := hide (show Pcs w5 v5 Q from Sl.of_own tc_len hown5); obtain ⟨A5, c5, rfl, hd1, hd2⟩ := own_form hown5; unfold maxLen at hd2; have hs5 := hb5.size; clear hown5; obtain ⟨j0, hj, jz0, jz1, jz2⟩ := info_parts infoInt; go_wp2; go_loopw [7, 8] (fun lv j wr2 => ∃ x : Nat, x ≤ Q.length ∧ j = .int .i64 x ∧ Hid (wr2.ownsRow w5.heap.size 3 1 lv x (((Q.take x).map numN).flatMap ic)) ∧ Hid (Below w5.heap.size w5 wr2) ∧ Hid (∀ y ∈ (Q.take x).map numN, 0 ≤ y)) (fun _ j _ => Q.length - (intOf j).toNat)
 case atStart => exact ⟨0, Nat.zero_le _, rfl, hide (World.ownsRow_nil _ _ _ _), hide (Below.refl _ _), hide (by simp)⟩
 case round =>
  obtain ⟨x, hx, rfl, HR, HBI, HP⟩ := hrel; have hsi := HBI.out.size; by_cases hxl : x < Q.length
  · obtain ⟨b5, o5, rfl, -, p5⟩ := pcs_at (HC5.out.below HBI.out) hxl
    have HST := hide (nums_step Q x hxl); have HNO := hide (list_none HQ0.out hxl); have HTK := hide (show (Q.take (x + 1)).map numN = (Q.take x).map numN ++ [numN Q[x]] by rw [List.take_succ_eq_append_getElem hxl, List.map_append]; rfl); have hqs := HQS.out Q[x] (List.getElem_mem hxl); generalize Q[x] = q5 at *; go_wp2_with fail
    (with_reducible refine (rNum_l q5 _ (by omega)).mono ?_); rintro e w6 ⟨rfl, hb6⟩; have hs6 := hb6.size; have HR6 := hide (own_below HR.out hb6); have HB6 := hide (bcall hb5 (bcall HBI.out hb6)); generalize numN q5 = y5 at *; by_cases hy : y5 < 0
    · have HN := hide (HNO.out hy)
      go_wp2; go_ret2
      exact ⟨_, [], false, .inr ⟨HN.out, rfl, rfl⟩, rfl, World.ownsRow_nil _ _ _ _, HB6.out⟩
    · go_wp2_with (at_builtin; refine wpList_append_own _ rfl _ _ 67 rfl w5.heap.size 3 j0 (.int .i64 0) 1 8 Tryz.underlying67 hj jz0 jz1 jz2 rfl (by decide) _ _ _ rfl (HR6.out.alloc _) ⟨_, 0, none⟩ 1 1 [.int .i64 y5] rfl rfl (row_at _ _ _ (by simp)) (by simp [Value.oneCell']) (by simp only [maxLen]; omega) (by omega) (by simp; omega) ?_; intro v7 w7 hown7 hgrow7 _)
      go_roundw
      case rel => exact ⟨x + 1, by omega, by go_num, hide (by rw [HST.out]; exact hown7), hide (((HBI.out.trans (hb6.mono hsi)).alloc (by omega) _).grown hgrow7 (by simp; omega) (own_ge HR6.out)), hide (by
       rw [HTK.out]; intro z hz; rcases List.mem_append.1 hz with h | h
       · exact HP.out z h
       · rw [List.mem_singleton] at h; omega)⟩
      case measure => simp [intOf]; omega
  · have hR := HR.out
    have hp := HP.out; rw [List.take_of_length_le (show Q.length ≤ x by omega)] at hR hp; have HS := hide (list_some HQ0.out hp); have hxQ : x = (Q.map numN).length := by rw [List.length_map]; omega
    rw [hxQ] at hR; have HU := hide (own_base hR hb5.size); have HB6 := hide (bcall hb5 HBI.out); clear hR hp hxQ; go_wp2; go_ret2
    exact ⟨_, _, true, .inl ⟨HS.out, rfl⟩, rfl, HU.out, HB6.out⟩
