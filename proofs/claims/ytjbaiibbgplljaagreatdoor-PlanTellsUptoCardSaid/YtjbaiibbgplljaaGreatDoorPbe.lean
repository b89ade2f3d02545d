import Derived.Test.YtjbaiibbgplljaaGreatDoorPad
import Derived.Test.YtjbaiibbgplljaaGreatDoorPbd
set_option maxRecDepth 100000
set_option maxHeartbeats 40000000
namespace Go.Proofs.YtjbaiibbgplljaaGreatDoor
open Go.RowKit Go.Shelf Go.Proofs
theorem ret_str {l l' : B8} (h : l = l') : Ending.returned (.string ⟨l.toArray⟩) = .returned (.string ⟨l'.toArray⟩) := by rw [h]
theorem number_small (n : Nat) (h : n < 100) (w : World) :
 Calls Tryz.prog 140 #[.int .i64 n] w fun e w' => e = .returned (.string ⟨(dec n).toArray⟩) ∧ w' = w := by
 have HI := hide (Tryz.strconv_Itoa_small n h); have HD := hide (show Go.Lib.decDigits n = dec (n : Int) by unfold dec; rw [Int.toNat_natCast]); go_enter Tryz.func140, Tryz.ntmps140
 go_wp2_with fail
 refine (HI.out _).mono ?_; rintro e w' ⟨rfl, rfl⟩; rw [HD.out]; go_wp2; go_ret
 exact ⟨rfl, rfl⟩
theorem number_text (n : Int) (h0 : 0 ≤ n) (h1 : n ≤ 9223372036854775807) (w : World) (hE : EnvH w) :
 Calls Tryz.prog 140 #[.int .i64 n] w fun e w' => e = .returned (.string ⟨(dec n).toArray⟩) ∧ Below w.heap.size w w' := by
 have HI := hide (Itoa_any n h0 h1 w hE); go_enter Tryz.func140, Tryz.ntmps140
 go_wp2_with fail
 refine HI.out.mono ?_; rintro e w' ⟨rfl, hb⟩; rw [show Go.Lib.decDigits n.toNat = dec n from rfl]; go_wp2; go_ret
 exact ⟨rfl, hb⟩
theorem mark_text (s : ByteArray) (w : World) :
 Calls Tryz.prog 142 #[.string s] w fun e w' => e = .returned (.string s) ∧ w' = w := by
 go_enter Tryz.func142, Tryz.ntmps142
 go_wp2; go_ret
 exact ⟨rfl, rfl⟩
theorem ahead_any (k : Nat) (w : World) :
 Calls Tryz.prog 141 #[.int .i64 k] w fun e w' => e = .returned (.string ⟨[aheadF k].toArray⟩) ∧ w' = w := by
 by_cases h : k = 0
 · subst h
   go_enter Tryz.func141, Tryz.ntmps141
   go_wp2; go_ret
   exact ⟨rfl, rfl⟩
 · have e0 : ((k : Int) == 0) = false := by rw [beq_eq_false_iff_ne]; omega
   have HA := hide (show aheadF k = 44 by unfold aheadF; rw [if_neg h]); clear h; go_enter Tryz.func141, Tryz.ntmps141
   go_wp2; go_ret
   exact ⟨by rw [HA.out]; rfl, rfl⟩
theorem dec_lenHp {v : Int} (h0 : 0 ≤ v) (h1 : v ≤ 64) : (dec v).length ≤ 2 := by
 obtain ⟨k, rfl⟩ : ∃ k : Nat, v = k := ⟨v.toNat, by omega⟩; have e : dec (k : Int) = dg k := by unfold dec; rw [Int.toNat_natCast]; exact dec_dg (by omega)
 rw [e]; unfold dg; split <;> simp
theorem slotsT_len : ∀ (r : List Int) (s : Nat), (∀ v ∈ r, 0 ≤ v ∧ v ≤ 64) → (slotsT s r).length ≤ 3 * r.length
 | [], s, _ => by simp [slotsT]
 | v :: r, s, h => by
   have h1 := slotsT_len r (s + 1) fun v h' => h v (List.mem_cons_of_mem _ h')
   have hv := h v (List.mem_cons_self ..); have h2 := dec_lenHp hv.1 hv.2; simp only [slotsT, List.length_append, List.length_cons]; omega
theorem rows_len : ∀ (ls : Rws), (∀ l ∈ ls, l.length ≤ 4 ∧ ∀ v ∈ l, 0 ≤ v ∧ v ≤ (64 : Int)) → (ls.flatMap (slotsT 0)).length ≤ 12 * ls.length
 | [], _ => by simp
 | l :: ls, h => by
   have h1 := rows_len ls fun l h' => h l (List.mem_cons_of_mem _ h')
   have hl := h l (List.mem_cons_self ..); have h2 := slotsT_len l 0 hl.2; rw [List.flatMap_cons, List.length_append, List.length_cons]; omega
theorem slotsT_snoc : ∀ (r : List Int) (s : Nat) (v : Int), slotsT s (r ++ [v]) = slotsT s r ++ aheadF (s + r.length) :: dec v
 | [], s, v => by simp [slotsT]
 | x :: r, s, v => by
   have := slotsT_snoc r (s + 1) v; simp only [List.cons_append, slotsT, this, List.append_assoc, List.length_cons]; rw [show s + 1 + r.length = s + (r.length + 1) by omega]
theorem Text_anyHp (n : Int) (v : Value) (ls : Rws) (w : World) (h : Grid w v ls) :
 Calls Tryz.prog 98 #[hv n v] w fun e w' => e = .returned (.string ⟨(hTextF n ls).toArray⟩) ∧ Below w.heap.size w w' := by
 have HG := hide h; obtain ⟨A, c, rfl, h1, h2⟩ := h.form; unfold maxLen at h2; clear h; obtain ⟨w1, ew, hB1, hlt1, hold, k0, k1⟩ := box1Hp w (.int .i64 n) (.slice A ls.length c) 24; have HE := hide ew; have HG1 := hide (HG.out.below hB1); clear ew; go_enter Tryz.func98, Tryz.ntmps98
 go_wp2_with fail
 rw [HE.out]; clear HE; (with_reducible refine (Right_anyHp _ _ ls _ HG1.out).mono ?_); rintro e w2 ⟨rfl, hb2⟩; have hs2 := hb2.size; have c0 := ((bcell hb2).1 _ 0 hlt1).trans k0; have c1 := ((bcell hb2).1 _ 1 hlt1).trans k1; by_cases hR : rightF n ls = true
 · rw [hR]
   have hr := right_len hR; obtain ⟨N, rfl⟩ : ∃ N : Nat, n = N := ⟨n.toNat, by omega⟩; obtain ⟨r1, r2, r3⟩ := hr; have HRT := hide hR; clear hR; have c0a : ∀ o', (w2.alloc o').cell? ⟨w.heap.size, 0, none⟩ = some (.int .i64 N) := fun o' => Lib.cell?_alloc_some _ c0
   have c1a : ∀ o', (w2.alloc o').cell? ⟨w.heap.size, 1, none⟩ = some (.slice A ls.length c) := fun o' => Lib.cell?_alloc_some _ c1
   obtain ⟨w3, e3, hb3, hlt3, -, -, -⟩ := box1Hp w2 (.pointer none) (.slice none 0 0) 153; have hI0 : Lib.IsBuilderF 153 5 w2.heap.size w2.heap.size (Lib.byteCells []) w3 := by rw [← e3]; exact Lib.IsBuilderF.of (Lib.fresh_isBuilder _ _ w2)
   have HE3 := hide e3; clear e3; go_wp2_with fail
   rw [HE3.out]; clear HE3 c0a c1a; refine (number_small N (by omega) _).mono ?_; rintro e w4 ⟨rfl, rfl⟩; have hd0 := dec_lenHp (v := (N : Int)) (by omega) (by omega); go_wp2_with fail
   have HW0 := hide (Builder_WriteString_k w2.heap.size w2.heap.size _ ⟨(dec (N : Int)).toArray⟩ w4 hI0 (by rw [Lib.byteCells_length, ba_size]; simp; omega) (by omega)); refine HW0.out.mono ?_; rintro e w5 ⟨rfl, hI5, hB5, -⟩; have hI : Lib.IsBuilderF 153 5 w2.heap.size w2.heap.size (Lib.byteCells (dec (N : Int))) w5 := .inr hI5; have hs5 := hB5.size; have hb35 : Below w2.heap.size w4 w5 := hB5; have hb25 : Below w2.heap.size w2 w5 := hb3.trans hb35; have p0 := ((bcell hb25).1 _ 0 (Nat.lt_of_lt_of_le hlt1 hs2)).trans c0; have p1 := ((bcell hb25).1 _ 1 (Nat.lt_of_lt_of_le hlt1 hs2)).trans c1; have HI := hide hI; clear hI5 hI hI0 c0 c1; go_wp2; have HRR := hide (right_rows HRT.out); have HBB := hide (show Below w.heap.size w w5 from bcall hB1 (hb2.trans (hb25.mono hs2))); have hb05 : Below w1.heap.size w1 w5 := bcall hb2 hb25; have hDL := hide (show (dec (N : Int)).length ≤ 2 from hd0); clear hd0; go_loopw [18] (fun i wr => ∃ k : Nat, k ≤ ls.length ∧ i = .int .i64 k ∧ Below w2.heap.size w5 wr ∧ Hid (Lib.IsBuilderF 153 5 w2.heap.size w2.heap.size (Lib.byteCells (dec (N : Int) ++ (ls.take k).flatMap (slotsT 0))) wr)) (fun i _ => ls.length - (intOf i).toNat)
   case atStart => exact ⟨0, Nat.zero_le _, rfl, Below.refl _ _, hide (by simpa using HI.out)⟩
   case round =>
    obtain ⟨k, hk, rfl, hb, HB⟩ := hrel; have hsz := hb.size; have hb0r : Below w1.heap.size w1 wr := hb05.trans (hb.mono hs2); by_cases hlt : k < ls.length
    · obtain ⟨b, off, u, rfl, hbw, hc, hr⟩ := grid_at (HG1.out.below hb0r) hlt
      have hbb : b < w1.heap.size := by
       obtain ⟨b', off', u', e', hbw', hc', hr'⟩ := grid_at HG1.out hlt; injection e' with e'; injection e' with e'; rw [e']; exact hbw'
      have HR := hide hr; have hlr := HRR.out ls[k] (List.getElem_mem hlt); have hT := hide (show (ls.take (k + 1)).flatMap (slotsT 0) = (ls.take k).flatMap (slotsT 0) ++ slotsT 0 ls[k] by rw [List.take_succ_eq_append_getElem hlt, List.flatMap_append]; simp); have hOL := rows_len (ls.take k) (fun l hl => by have := HRR.out l (List.mem_of_mem_take hl); exact ⟨by omega, fun v hv => by have := this.2 v hv; omega⟩); rw [List.length_take] at hOL; obtain ⟨B, d, rfl, h3, h4, -⟩ := hr; unfold maxLen at h4; obtain ⟨l, hl⟩ : ∃ l, ls[k] = l := ⟨_, rfl⟩; have HL := hide hl; rw [hl] at hlr HR h3 hc hT; obtain ⟨m, hm⟩ : ∃ m, l.length = m := ⟨_, rfl⟩; have HM := hide hm; have hm4 : m ≤ 4 := by have := hlr.1; omega
      rw [hm] at HR h3 hc; have HLR := hide hlr.2; have HOL := hide hOL; obtain ⟨pre, hpre⟩ : ∃ pre, dec (N : Int) ++ (ls.take k).flatMap (slotsT 0) = pre := ⟨_, rfl⟩; have hpl : pre.length ≤ 1000 := by rw [← hpre, List.length_append]; have := hDL.out; omega
      have HPRE := hide hpre; have HB1 := HB.out; rw [hpre] at HB1; have HB2 := hide HB1; clear hl hm hlr hOL hpre HB HB1; go_wp2; go_loopw [24] (fun i wi => ∃ j : Nat, j ≤ m ∧ i = .int .i64 j ∧ Below w2.heap.size wr wi ∧ Hid (Lib.IsBuilderF 153 5 w2.heap.size w2.heap.size (Lib.byteCells (pre ++ slotsT 0 (l.take j))) wi)) (fun i _ => m - (intOf i).toNat)
      case atStart => exact ⟨0, Nat.zero_le _, rfl, Below.refl _ _, hide (by simpa [slotsT] using HB2.out)⟩
      case round =>
       obtain ⟨j, hj, rfl, hbi, HBI⟩ := hrel; have hsi := hbi.size; by_cases hlj : j < m
       · have hlj2 : j < l.length := by rw [HM.out]; exact hlj
         obtain ⟨b2, off2, rfl, hbw2, hc2⟩ := ints_at HR.out hlj2; have hbb2 : b2 < w1.heap.size := by
          obtain ⟨b', off', u', e', hbw', hc', hr'⟩ := grid_at HG1.out hlt; rw [HL.out] at hr'; have e9 := hc'.symm.trans (((bcell hb0r).1 b' (off' + k) hbw').symm.trans (by injection e' with e'; injection e' with e1 e2; subst e1; subst e2; exact hc)); injection e9 with e9; rw [e9] at hr'; obtain ⟨b3, off3, e3, hb3', _⟩ := ints_at hr' hlj2; injection e3 with e3; injection e3 with e3; rw [e3]; exact hb3'
         have hc3 := ((bcell (hb0r.trans (hbi.mono hs2))).1 b2 (off2 + j) hbb2).trans (((bcell hb0r).1 b2 (off2 + j) hbb2).symm.trans hc2); have hvr := HLR.out l[j] (List.getElem_mem hlj2); have hsn := hide (show slotsT 0 (l.take (j + 1)) = slotsT 0 (l.take j) ++ aheadF j :: dec l[j] by
          rw [List.take_succ_eq_append_getElem hlj2, slotsT_snoc, List.length_take, Nat.zero_add, Nat.min_eq_left (by omega)])
         have hsl := slotsT_len (l.take j) 0 (fun v hv => by have := HLR.out v (List.mem_of_mem_take hv); omega); rw [List.length_take] at hsl; obtain ⟨x, hx⟩ : ∃ x, l[j] = x := ⟨_, rfl⟩; rw [hx] at hc3 hvr hsn; obtain ⟨M, rfl⟩ : ∃ M : Nat, x = M := ⟨x.toNat, by omega⟩; clear hx hc2 hbw2; obtain ⟨q, hq⟩ : ∃ q, slotsT 0 (l.take j) = q := ⟨_, rfl⟩; have HQ := hide hq; rw [hq] at hsl; have HI1 := HBI.out; rw [hq] at HI1; have hql : q.length ≤ 20 := by omega
         have hdM := dec_lenHp (v := (M : Int)) (by omega) (by omega); clear hq hsl HBI; have HW1 := hide (Builder_WriteString_k w2.heap.size w2.heap.size _ ⟨[aheadF j].toArray⟩ wr HI1 (by rw [Lib.byteCells_length, ba_size]; simp; omega) (by omega)); go_wp2_with fail
         refine (ahead_any j _).mono ?_; rintro e w8 ⟨rfl, rfl⟩; go_wp2_with fail
         refine (mark_text _ _).mono ?_; rintro e w8 ⟨rfl, rfl⟩; go_wp2_with fail
         refine HW1.out.mono ?_; rintro e w8 ⟨rfl, hI8, hb8, -⟩; have hs8 := hb8.size; have hI8' : Lib.IsBuilderF 153 5 w2.heap.size w2.heap.size (Lib.byteCells (pre ++ q ++ [aheadF j])) w8 := by rw [Lib.byteCells_append]; exact .inr hI8
         have HW2 := hide (Builder_WriteString_k w2.heap.size w2.heap.size _ ⟨(dec (M : Int)).toArray⟩ w8 hI8' (by rw [Lib.byteCells_length, ba_size]; simp; omega) (by omega)); clear hI8 hI8' HI1 HW1; go_wp2_with fail
         refine (number_small M (by omega) _).mono ?_; rintro e w9 ⟨rfl, rfl⟩; go_wp2_with fail
         refine HW2.out.mono ?_; rintro e w9 ⟨rfl, hI9, hb9, -⟩; go_wp2; go_roundw
         case rel =>
          refine ⟨j + 1, by omega, by go_num, (hbi.trans hb8).trans hb9, hide ?_⟩; rw [hsn.out, HQ.out, show pre ++ (q ++ aheadF j :: dec (M : Int)) = pre ++ q ++ [aheadF j] ++ dec (M : Int) by simp, Lib.byteCells_append]; exact .inr hI9
         case measure => simp [intOf]; omega
       · go_wp2
         go_roundw
         case rel =>
          refine ⟨k + 1, by omega, by go_num, hb.trans hbi, hide ?_⟩; have := HBI.out; rw [List.take_of_length_le (by have := HM.out; omega)] at this; rw [hT.out, ← List.append_assoc, HPRE.out]; exact this
         case measure => simp [intOf]; omega
    · have HB1 := HB.out
      rw [List.take_of_length_le (by omega)] at HB1; have hS := hide (Tryz.Builder_String_any_k w2.heap.size w2.heap.size _ _ HB1 (by omega)); clear HB1; go_wp2_with fail
      refine hS.out.mono ?_; rintro e w6 ⟨rfl, -, hb6, -⟩; go_wp2; go_ret
      exact ⟨ret_str (by unfold hTextF; rw [if_pos HRT.out]), (HBB.out.trans (hb.mono (by omega))).trans (hb6.mono (by omega))⟩
 · have hR1 : rightF n ls = false := by simpa using hR
   have HT := hide (show hTextF n ls = [63] by unfold hTextF; rw [if_neg hR]); rw [hR1]; clear hR hR1; go_wp2; go_ret
   exact ⟨by rw [HT.out]; rfl, bcall hB1 hb2⟩
def Told (p : Option Prt) (e : Ending) : Prop :=
 match p with
 | some (.num n) => e = .returned (.iface 199 (.int .i64 n))
 | some (.mrk m) => e = .returned (.iface 200 (.string ⟨m.toArray⟩))
 | none => ∃ u v, e = .panicked [{ v := .iface u v, recovered := false }]
theorem ext_take (l : B8) (k : Nat) : (⟨l.toArray⟩ : ByteArray).extract 0 k = ⟨(l.take k).toArray⟩ := by
 apply ByteArray.ext
 apply Array.ext'
 rw [ByteArray.data_extract, Array.toList_extract]; simp [List.extract]
theorem drop_noD : ∀ l : B8, noD (l.dropWhile isD)
 | [] => by intro b r h; cases h
 | x :: l => by
   rw [List.dropWhile_cons]; split
   · exact drop_noD l
   · rename_i h; intro b r e; cases e; simpa using h
theorem ret_iface_ba {t : TypeId} {a b : ByteArray} (h : a = b) : Ending.returned (.iface t (.string a)) = .returned (.iface t (.string b)) := by rw [h]
theorem first_mark (R : B8) (w : World) (hl : R.length ≤ 140737488351232) (hR : noD R) :
 Calls Tryz.prog 222 #[.string ⟨R.toArray⟩] w fun e w' => e = .returned (.iface 200 (.string ⟨(R.take 1).toArray⟩)) ∧ Below w.heap.size w w' := by
 have hd : R.dropWhile isD = R := by
  cases R with
  | nil => rfl
  | cons b r => rw [List.dropWhile_cons, hR b r rfl]; rfl
 have hT := hide (show Calls Tryz.prog 228 #[.string ⟨R.toArray⟩, .string ⟨#[48, 49, 50, 51, 52, 53, 54, 55, 56, 57]⟩] w fun e w' => e = .returned (.string ⟨R.toArray⟩) ∧ Below w.heap.size w w' from
  (TrimLeft_any ⟨R.toArray⟩ w).mono fun e w' ⟨h1, h2⟩ => ⟨by rw [h1]; exact ret_str hd, h2⟩)
 have HX0 := hide (ext_take R 0); cases R with
 | nil =>
   clear hd hR; go_enter Tryz.func222, Tryz.ntmps222
   go_wp2_with fail
   refine hT.out.mono ?_; rintro e w1 ⟨rfl, hb⟩; go_wp2; go_ret
   exact ⟨rfl, hb⟩
 | cons b r =>
   have HX1 := hide (ext_take (b :: r) 1); have hx : (⟨(b :: r).toArray⟩ : ByteArray).extract 0 0 = ⟨#[]⟩ := by rw [HX0.out]; rfl
   clear hd hR; go_enter Tryz.func222, Tryz.ntmps222
   go_wp2_with fail
   refine hT.out.mono ?_; rintro e w1 ⟨rfl, hb⟩; go_wp2; go_ret
   exact ⟨ret_iface_ba (by rw [show (min 1 ((r.length : Int) + 1)).toNat = 1 by omega]; exact HX1.out), hb⟩
theorem atoi_pos {ds : B8} {n : Int} (hd : ds.all isD = true) (h : Go.Lib.atoiAll ds = .ok n) : 0 ≤ n := by
 cases ds with
 | nil => cases h
 | cons c r =>
   rw [List.all_cons, Bool.and_eq_true] at hd; have h45 : ∀ c : UInt8, isD c = true → c.toNat ≠ 45 := fun c h e => by
    have : c = 45 := UInt8.toNat_inj.1 (by simpa using e); subst this; revert h; decide
   unfold Go.Lib.atoiAll at h; simp only [h45 c hd.1, if_false, not_false_eq_true, true_and, false_and] at h; split at h
   · cases h
   · cases h
   · split at h
     · cases h
     · injection h with h; omega
theorem take_digits (l : B8) : (l.takeWhile isD).all isD = true := by
 rw [List.all_eq_true]; exact fun x hx => by
  induction l with
  | nil => cases hx
  | cons b l ih =>
    rw [List.takeWhile_cons] at hx; split at hx
    · rcases List.mem_cons.1 hx with rfl | h
      · assumption
      · exact ih h
    · cases hx
def numP (ds : B8) : Option Prt := match Go.Lib.atoiAll ds with | .ok n => if dec n = ds then some (.num n) else none | _ => none
theorem numP_ok {ds : B8} {n : Int} (h : Go.Lib.atoiAll ds = .ok n) : numP ds = if dec n = ds then some (.num n) else none := by unfold numP; rw [h]
theorem first_num (ds R : B8) (w : World) (hl : (ds ++ R).length ≤ 140737488351232) (hne : ds ≠ []) (hds : ds.all isD = true) (hR : noD R) (hE : EnvH w) :
 Calls Tryz.prog 222 #[.string ⟨(ds ++ R).toArray⟩] w fun e w' => Told (numP ds) e ∧ Below w.heap.size w w' := by
 have hd : (ds ++ R).dropWhile isD = R := by
  have h1 := take_allHp ds R hds hR; have h2 := drop_take (ds ++ R); rw [h1, List.drop_left] at h2; exact h2.symm
 have hT := hide (show Calls Tryz.prog 228 #[.string ⟨(ds ++ R).toArray⟩, .string ⟨#[48, 49, 50, 51, 52, 53, 54, 55, 56, 57]⟩] w fun e w' => e = .returned (.string ⟨R.toArray⟩) ∧ Below w.heap.size w w' from
  (TrimLeft_any ⟨(ds ++ R).toArray⟩ w).mono fun e w' ⟨h1, h2⟩ => ⟨by rw [h1]; exact ret_str hd, h2⟩)
 rw [List.length_append] at hl; obtain ⟨s, hs⟩ : ∃ s : ByteArray, (⟨(ds ++ R).toArray⟩ : ByteArray) = s := ⟨_, rfl⟩; obtain ⟨d, hdd⟩ : ∃ d : ByteArray, (⟨ds.toArray⟩ : ByteArray) = d := ⟨_, rfl⟩; have hssz : s.size = ds.length + R.length := by rw [← hs, ba_size, List.length_append]
 have hx : s.extract 0 ds.length = d := by rw [← hs, ext_take, List.take_left, hdd]
 have hRsz : (⟨R.toArray⟩ : ByteArray).size = R.length := ba_size R; have hdl : d.data.toList = ds := by rw [← hdd]
 have hdsz : d.size = ds.length := by rw [← hdd, ba_size]
 have hem : (d.toList == []) = false := by
  rw [ByteArray.toList_eq, hdl]; cases ds with
  | nil => exact absurd rfl hne
  | cons b r => rfl
 rw [hs] at hT ⊢; obtain ⟨q, hq⟩ : ∃ q : ByteArray, (⟨R.toArray⟩ : ByteArray) = q := ⟨_, rfl⟩; rw [hq] at hT hRsz; obtain ⟨M, hM⟩ : ∃ M, ds.length = M := ⟨_, rfl⟩; obtain ⟨M2, hM2⟩ : ∃ M2, R.length = M2 := ⟨_, rfl⟩; rw [hM] at hl hssz hx hdsz; rw [hM2] at hl hssz hRsz; obtain ⟨P, hP⟩ : ∃ P, numP ds = P := ⟨_, rfl⟩; rw [hP]; have HDD := hide hdd; have HE := hide hE; by_cases hok : ∃ n, Go.Lib.atoiAll ds = .ok n
 · obtain ⟨n, hn⟩ := hok
   have hn0 := atoi_pos hds hn; have hn1 := Go.Lib.atoiAll_bounds hn; have hA := hide (fun w => Atoi_okHp d (by omega) n (by rw [hdl]; exact hn) w); obtain ⟨D, hD⟩ : ∃ D, dec n = D := ⟨_, rfl⟩; have HD := hide hD; have hN := hide (fun w => number_text n hn0 hn1.2 w); rw [hD] at hN; have hF := hide (numP_ok hn); rw [hP, hD] at hF; obtain ⟨f, hf⟩ : ∃ f : ByteArray, (⟨D.toArray⟩ : ByteArray) = f := ⟨_, rfl⟩; have hfl : f.toList = D := by rw [← hf, ba_toList]
   have hdl2 : d.toList = ds := by rw [ByteArray.toList_eq, hdl]
   rw [hf] at hN; have hq0 : (f.toList == d.toList) = decide (D = ds) := by
    rw [hfl, hdl2]; by_cases h : D = ds
    · subst h; simp
    · simp [h]
   by_cases he : D = ds
   · rw [decide_eq_true he] at hq0
     rw [if_pos he] at hF; clear hn hn1 hD he hf hfl hdl2 hs hdd hne hds hR hd hE hdl hdsz hq hM hM2 hP; go_enter Tryz.func222, Tryz.ntmps222
     go_wp2_with fail
     (with_reducible refine hT.out.mono ?_); rintro e w1 ⟨rfl, hb⟩; go_wp2_with fail
     (with_reducible refine (hA.out _).mono ?_); rintro e w2 ⟨rfl, hb2⟩; go_wp2_with fail
     (with_reducible refine (hN.out _ ((HE.out.below hb).below hb2)).mono ?_); rintro e w3 ⟨rfl, hb3⟩; go_wp2; go_ret
     exact ⟨by rw [hF.out]; rfl, bcall (bcall hb hb2) hb3⟩
   · rw [decide_eq_false he] at hq0
     rw [if_neg he] at hF; clear hn hn1 hD he hf hfl hdl2 hs hdd hne hds hR hd hE hdl hdsz hq hM hM2 hP; go_enter Tryz.func222, Tryz.ntmps222
     go_wp2_with fail
     (with_reducible refine hT.out.mono ?_); rintro e w1 ⟨rfl, hb⟩; go_wp2_with fail
     (with_reducible refine (hA.out _).mono ?_); rintro e w2 ⟨rfl, hb2⟩; go_wp2_with fail
     (with_reducible refine (hN.out _ ((HE.out.below hb).below hb2)).mono ?_); rintro e w3 ⟨rfl, hb3⟩; go_wp2; exact ⟨rfl, by rw [hF.out]; exact ⟨_, _, rfl⟩, bcall (bcall hb hb2) hb3⟩
 · have hA := hide (fun w => Atoi_badHp d (by omega) (fun v h => hok ⟨v, by rw [← hdl]; exact h⟩) w)
   have hF := hide (show numP ds = none by
    unfold numP; split
    · rename_i n h; exact absurd ⟨n, h⟩ hok
    · rfl)
   rw [hP] at hF; clear hP hok hs hdd hne hds hR hd hE hdl hdsz hq hM hM2; go_enter Tryz.func222, Tryz.ntmps222
   go_wp2_with fail
   (with_reducible refine hT.out.mono ?_); rintro e w1 ⟨rfl, hb⟩; go_wp2_with fail
   (with_reducible refine (hA.out _ (HE.out.below hb)).mono ?_); rintro e w2 ⟨n, N, rfl, hb2⟩; go_wp2; exact ⟨rfl, by rw [hF.out]; exact ⟨_, _, rfl⟩, bcall hb hb2⟩
theorem first_any (l : B8) (w : World) (hl : l.length ≤ 140737488351232) (hE : EnvH w) :
 Calls Tryz.prog 222 #[.string ⟨l.toArray⟩] w fun e w' => Told (hFirstF l) e ∧ Below w.heap.size w w' := by
 by_cases h0 : l.takeWhile isD = []
 · have hR : noD l := by
    intro b r e; subst e; rw [List.takeWhile_cons] at h0; split at h0
    · cases h0
    · rename_i h; simpa using h
   refine (first_mark l w hl hR).mono ?_; rintro e w' ⟨rfl, hb⟩; refine ⟨?_, hb⟩; unfold hFirstF; rw [if_pos h0]; rfl
 · have e := take_drop_while l
   have := first_num (l.takeWhile isD) (l.dropWhile isD) w (by rw [← e]; exact hl) h0 (take_digits l) (drop_noD l) hE; rw [← e] at this; unfold hFirstF; rw [if_neg h0]; exact this
