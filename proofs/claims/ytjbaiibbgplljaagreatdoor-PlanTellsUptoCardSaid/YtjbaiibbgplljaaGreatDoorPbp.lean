import Derived.Lib.ItoaMem
import Derived.Test.YtjbaiibbgplljaaGreatDoorPau
import Derived.Test.YtjbaiibbgplljaaGreatDoorPbo
import Derived.Test.YtjbaiibbgplljaaGreatDoorPbh
import Derived.Test.YtjbaiibbgplljaaGreatDoorPbl
set_option maxRecDepth 100000
set_option maxHeartbeats 40000000
namespace Go.Proofs.YtjbaiibbgplljaaGreatDoor
open Go.RowKit Go.Joins Go.Shelf Go.Proofs
def tsC (t : B8) : List Value := [.string ⟨t.toArray⟩]
theorem tsC_len (p : B8) : (tsC p).length = 1 := rfl
abbrev Txs (w : World) (v : Value) (l : List B8) : Prop := Sl tsC 1 w v l
theorem joinC_inter (c : UInt8) : ∀ l : List B8, Go.Lib.join l [c] = joinC c l
 | [] => rfl
 | [p] => by simp [Go.Lib.join, joinC, List.intercalate]
 | p :: q :: l => by
   have := joinC_inter c (q :: l); unfold Go.Lib.join List.intercalate at this ⊢; rw [joinC, ← this]; simp [List.intersperse]
theorem joinC_len (c : UInt8) : ∀ l : List B8, (joinC c l).length ≤ (l.map List.length).sum + l.length
 | [] => by simp [joinC]
 | [p] => by simp [joinC]
 | p :: q :: l => by
   have := joinC_len c (q :: l); simp only [joinC, List.length_append, List.length_cons, List.map_cons, List.sum_cons] at this ⊢; omega
theorem numsT_len (c : UInt8) (l : List Int) (h : ∀ x ∈ l, 0 ≤ x ∧ x ≤ 1000000) : (numsT c l).length ≤ 8 * l.length := by
 have h1 := joinC_len c (l.map dec); have h2 : ∀ l : List Int, (∀ x ∈ l, 0 ≤ x ∧ x ≤ 1000000) → ((l.map dec).map List.length).sum ≤ 7 * l.length := by
  intro l; induction l with
  | nil => intro _; simp
  | cons a l ih =>
    intro h; have e := ih fun x hx => h x (List.mem_cons_of_mem _ hx)
    have ha := h a (by simp); have hd : (dec a).length ≤ 7 := by
     unfold dec; rw [Go.Lib.decDigits_length]; have : ¬ 8 ≤ Go.Lib.nDigits a.toNat := by
      intro h8; have := Go.Lib.decDigits_length a.toNat; have h9 : (Go.Lib.decDigits a.toNat).length ≤ 7 := Go.Proofs.YtjbaiibbgplljaaGreatDoor.dec_lenPl 7 a.toNat (by omega) (by decide); omega
     omega
    simp only [List.map_cons, List.sum_cons, List.length_cons]; omega
 have h3 := h2 l h; rw [List.length_map] at h1; unfold numsT; omega
theorem fedT_append (a b : List B8) : fedT (a ++ b) = fedT a ++ fedT b := by unfold fedT; rw [List.flatMap_append]
theorem fedT_one (a : B8) : fedT [a] = a ++ [10] := by simp [fedT]
theorem fedT_len (N : Nat) : ∀ l : List B8, (∀ x ∈ l, x.length ≤ N) → (fedT l).length ≤ l.length * (N + 1)
 | [], _ => by simp [fedT]
 | a :: l, h => by
   have e := fedT_len N l fun x hx => h x (List.mem_cons_of_mem _ hx)
   have ha := h a (by simp); show (a ++ [10] ++ fedT l).length ≤ _
   rw [List.length_append, List.length_append, List.length_singleton, List.length_cons, Nat.add_mul, Nat.one_mul]; omega
theorem hT_small (n : Int) (ls : Rws) : (hTextF n ls).length ≤ 1000 := by
 unfold hTextF; split
 · rename_i h
   have hl := right_len h; have hr := right_rows h; have h1 := rows_len ls (fun l hl' => ⟨by have := (hr l hl').1; omega, fun v hv => by have := (hr l hl').2 v hv; omega⟩); have h2 := Go.Proofs.YtjbaiibbgplljaaGreatDoor.dec_lenHp (v := n) (by omega) (by omega); rw [List.length_append]; omega
 · simp
theorem st_small (s : Nat) : (textF s).length ≤ 182 := text_lenSt s
theorem FormatInt_c (x : Int) (w : World) (h0 : 0 ≤ x) (h1 : x ≤ 9223372036854775807) (hE : EnvP w) :
 Calls Tryz.prog 139 #[.int .i64 x, .int .i64 10] w fun e w' => e = .returned (.string ⟨(dec x).toArray⟩) ∧ Below w.heap.size w w' := by
 refine (Tryz.strconv_FormatInt_10 x (by omega) h1 w hE.h.pow).mono ?_; rintro e w' ⟨rfl, k, os, rfl⟩; refine ⟨?_, grow_below _ _ _⟩; unfold Go.Lib.itoa dec; rw [if_neg (by omega)]
theorem Join_c (c : UInt8) (ts : List B8) (v : Value) (w : World) (h : Txs w v ts) (hn : ts.length ≤ 140737488355328) (hl : (joinC c ts).length ≤ 140737488355328) :
 Calls Tryz.prog 138 #[v, .string ⟨#[c]⟩] w fun e w' => e = .returned (.string ⟨(joinC c ts).toArray⟩) ∧ Below w.heap.size w w' := by
 obtain ⟨A, cp, rfl, h1, h2, h3⟩ := h; by_cases h0 : ts.length = 0
 · rw [h0]
   refine (Tryz.strings_Join_none A cp ⟨#[c]⟩ w).mono ?_; rintro e w' ⟨rfl, hw⟩; obtain rfl := hw.symm; exact ⟨by rw [List.eq_nil_of_length_eq_zero h0]; rfl, Below.refl _ _⟩
 · obtain ⟨b, off, rfl, hb, hc⟩ := h3 (by omega)
   have hm : ((ts.map fun t : B8 => (⟨t.toArray⟩ : ByteArray)).map (·.data.toList)) = ts := by
    rw [List.map_map]; have : ((fun x : ByteArray => x.data.toList) ∘ fun t : B8 => (⟨t.toArray⟩ : ByteArray)) = id := by funext t; simp
    rw [this, List.map_id]
   have hj : Go.Lib.join ((ts.map fun t : B8 => (⟨t.toArray⟩ : ByteArray)).map (·.data.toList)) (⟨#[c]⟩ : ByteArray).data.toList = joinC c ts := by
    rw [hm]; exact joinC_inter c ts
   have hlen : (ts.map fun t : B8 => (⟨t.toArray⟩ : ByteArray)).length = ts.length := List.length_map ..; have := Tryz.strings_Join b off cp (ts.map fun t : B8 => (⟨t.toArray⟩ : ByteArray)) ⟨#[c]⟩ w (by
    intro j x hx; rw [List.getElem?_map] at hx; obtain ⟨t, ht, rfl⟩ := Option.map_eq_some_iff.1 hx; have := hc j t ht 0 (.string ⟨t.toArray⟩) rfl; simpa using this) hb (by rw [hlen]; exact hn) (by rw [hlen]; exact h1) (by rw [hj]; exact hl)
   rw [hlen, hj] at this; exact this
theorem txs_two (w : World) (X Y : ByteArray) (t : TypeId) : Txs (w.alloc (.cells #[.string X, .string Y] t)) (.slice (some ⟨w.heap.size, 0, none⟩) 2 2) [X.data.toList, Y.data.toList] := by
 refine ⟨_, 2, rfl, by simp, by simp [maxLen], fun _ => ⟨w.heap.size, 0, rfl, by simp, ?_⟩⟩; intro i p hp j u hu; have hcell := fun k => cell_of_block (heap_alloc_new w (.cells #[.string X, .string Y] t)) k
 rcases j with _ | j
 · rcases i with _ | _ | i
   · obtain rfl : X.data.toList = p := by simpa using hp
     have hu := Option.some.inj (show some (Value.string ⟨X.data.toList.toArray⟩) = some u from hu); subst hu; rw [show (⟨X.data.toList.toArray⟩ : ByteArray) = X by simp]; have := hcell 0; simpa only [List.getElem?_toArray, List.getElem?_cons_zero, List.getElem?_cons_succ] using this
   · obtain rfl : Y.data.toList = p := by simpa using hp
     have hu := Option.some.inj (show some (Value.string ⟨Y.data.toList.toArray⟩) = some u from hu); subst hu; rw [show (⟨Y.data.toList.toArray⟩ : ByteArray) = Y by simp]; have := hcell 1; simpa only [List.getElem?_toArray, List.getElem?_cons_zero, List.getElem?_cons_succ] using this
   · simp at hp
 · simp [tsC] at hu
theorem txs_three (w : World) (X Y Z : ByteArray) (t : TypeId) : Txs (w.alloc (.cells #[.string X, .string Y, .string Z] t)) (.slice (some ⟨w.heap.size, 0, none⟩) 3 3) [X.data.toList, Y.data.toList, Z.data.toList] := by
 refine ⟨_, 3, rfl, by simp, by simp [maxLen], fun _ => ⟨w.heap.size, 0, rfl, by simp, ?_⟩⟩; intro i p hp j u hu; have hcell := fun k => cell_of_block (heap_alloc_new w (.cells #[.string X, .string Y, .string Z] t)) k
 rcases j with _ | j
 · rcases i with _ | _ | _ | i
   · obtain rfl : X.data.toList = p := by simpa using hp
     have hu := Option.some.inj (show some (Value.string ⟨X.data.toList.toArray⟩) = some u from hu); subst hu; rw [show (⟨X.data.toList.toArray⟩ : ByteArray) = X by simp]; have := hcell 0; simpa only [List.getElem?_toArray, List.getElem?_cons_zero, List.getElem?_cons_succ] using this
   · obtain rfl : Y.data.toList = p := by simpa using hp
     have hu := Option.some.inj (show some (Value.string ⟨Y.data.toList.toArray⟩) = some u from hu); subst hu; rw [show (⟨Y.data.toList.toArray⟩ : ByteArray) = Y by simp]; have := hcell 1; simpa only [List.getElem?_toArray, List.getElem?_cons_zero, List.getElem?_cons_succ] using this
   · obtain rfl : Z.data.toList = p := by simpa using hp
     have hu := Option.some.inj (show some (Value.string ⟨Z.data.toList.toArray⟩) = some u from hu); subst hu; rw [show (⟨Z.data.toList.toArray⟩ : ByteArray) = Z by simp]; have := hcell 2; simpa only [List.getElem?_toArray, List.getElem?_cons_zero, List.getElem?_cons_succ] using this
   · simp at hp
 · simp [tsC] at hu
theorem wLine (ts : List B8) (v : Value) (w : World) (h : Txs w v ts) (hn : ts.length ≤ 140737488355328) (hl : (joinC 32 ts).length ≤ 140737488355328) :
 Calls Tryz.prog 96 #[v] w fun e w' => e = .returned (.string ⟨(joinC 32 ts ++ [10]).toArray⟩) ∧ Below w.heap.size w w' := by
 have HH := hide h; have HN := hide hn; have HL := hide hl; have HC := hide (ba_append (joinC 32 ts) [10]); have hs : ¬ 9223372036854775807 < List.length (joinC 32 ts) + 1 := by omega
 obtain ⟨A, c, rfl, -⟩ := h; clear hn hl; go_enter Tryz.func96, Tryz.ntmps96
 go_wp2_with fail
 (with_reducible refine (Join_c 32 ts _ _ HH.out HN.out HL.out).mono ?_); rintro e w2 ⟨rfl, hb2⟩; go_wp2; go_ret
 exact ⟨cret HC.out, hb2⟩
theorem wLine2 (X Y : ByteArray) (w : World) (hl : X.data.toList.length + Y.data.toList.length ≤ 100000000) :
 Calls Tryz.prog 96 #[.slice (some ⟨w.heap.size, 0, none⟩) 2 2] (w.alloc (.cells #[.string X, .string Y] 9)) fun e w' => e = .returned (.string ⟨(lineT X.data.toList Y.data.toList ++ [10]).toArray⟩) ∧ Below w.heap.size w w' := by
 refine (wLine [X.data.toList, Y.data.toList] _ _ (txs_two w X Y _) (by simp) (show (X.data.toList ++ 32 :: Y.data.toList).length ≤ _ by rw [List.length_append, List.length_cons]; omega)).mono ?_; rintro e w' ⟨rfl, hb⟩; exact ⟨rfl, ((Below.refl _ w).alloc (Nat.le_refl _) _).trans (hb.mono (by simp))⟩
theorem wLine3 (X Y Z : ByteArray) (w : World) (hl : X.data.toList.length + Y.data.toList.length + Z.data.toList.length ≤ 100000000) :
 Calls Tryz.prog 96 #[.slice (some ⟨w.heap.size, 0, none⟩) 3 3] (w.alloc (.cells #[.string X, .string Y, .string Z] 9)) fun e w' => e = .returned (.string ⟨(lineT X.data.toList (Y.data.toList ++ 32 :: Z.data.toList) ++ [10]).toArray⟩) ∧ Below w.heap.size w w' := by
 refine (wLine [X.data.toList, Y.data.toList, Z.data.toList] _ _ (txs_three w X Y Z _) (by simp) (show (X.data.toList ++ 32 :: (Y.data.toList ++ 32 :: Z.data.toList)).length ≤ _ by rw [List.length_append, List.length_cons, List.length_append, List.length_cons]; omega)).mono ?_; rintro e w' ⟨rfl, hb⟩; exact ⟨rfl, ((Below.refl _ w).alloc (Nat.le_refl _) _).trans (hb.mono (by simp))⟩
theorem infoStrPl : (Tryz.prog.info? 9).map (fun i => (i.zero, i.size, i.bytes)) = some (some (.string ⟨#[]⟩), 1, 16) := by kernel_rfl
theorem Digits_int (c : UInt8) (v : Value) (l : List Int) (w : World) (h : Ints w v l) (hr : ∀ x ∈ l, 0 ≤ x ∧ x ≤ 1000000) (hlen : l.length ≤ 1000000) (hE : EnvP w) :
 Calls Tryz.prog 100 #[.string ⟨#[c]⟩, v] w fun e w' => e = .returned (.string ⟨(numsT c l).toArray⟩) ∧ Below w.heap.size w w' := by
 obtain ⟨i0, hi, hz0, hz1, hz2⟩ := info_parts infoStrPl; obtain ⟨A, cp, rfl, h1, h2, -⟩ := id h; unfold maxLen at h2; have HI := hide h; have HR := hide hr; have HE := hide hE; have HJ := hide (show (joinC c (l.map dec)).length ≤ 140737488355328 by have := numsT_len c l hr; unfold numsT at this; omega); clear h hr hE; go_enter Tryz.func100, Tryz.ntmps100
 go_wp2; go_loopw [5, 10] (fun r i wr => ∃ k : Nat, k ≤ l.length ∧ i = .int .i64 k ∧ wr.ownsRow w.heap.size 9 1 r k (((l.take k).map dec).flatMap tsC) ∧ Below w.heap.size w wr) (fun _ i _ => l.length - (intOf i).toNat)
 case atStart => exact ⟨0, Nat.zero_le _, rfl, World.ownsRow_nil _ _ _ _, Below.refl _ _⟩
 case round =>
  obtain ⟨k, hk, rfl, hown, hb⟩ := hrel; by_cases hlt : k < l.length
  · obtain ⟨b, off, rfl, -, c0⟩ := ints_at (HI.out.below hb) hlt
    obtain ⟨hx0, hx1⟩ := HR.out l[k] (List.getElem_mem hlt); have HS := hide (show ((l.take (k + 1)).map dec).flatMap tsC = ((l.take k).map dec).flatMap tsC ++ [.string ⟨(dec l[k]).toArray⟩] by
     rw [List.take_succ_eq_append_getElem hlt, List.map_append, List.flatMap_append]; rfl)
    generalize l[k] = x at *; obtain ⟨Ar, cr, rfl, hcr1, hcr2⟩ := own_form hown; have HO := hide hown; have HB := hide hb; have HX0 := hide hx0; have HX1 := hide hx1; clear hown hb hx0 hx1; go_wp2_with fail
    (with_reducible refine (FormatInt_c x _ HX0.out (by have := HX1.out; omega) (HE.out.below HB.out)).mono ?_); rintro e w2 ⟨rfl, hb2⟩; have hown := HO.out.kept (grown_of_below hb2 none) (by cases (Value.slice Ar k cr).ownBlock <;> simp); have hb3 := bcall HB.out hb2; have hwa := hb3.size; clear hb2; go_wp2_with (at_builtin; refine wpList_append_own _ rfl _ _ 63 rfl w.heap.size 9 i0 (.string ⟨#[]⟩) 1 16 Tryz.underlying63 hi hz0 hz1 hz2 rfl (by decide) _ _ _ rfl (hown.alloc _) ⟨_, 0, none⟩ 1 1 [.string ⟨(dec x).toArray⟩] rfl rfl (row_at _ _ _ (by simp)) (by simp [Value.oneCell']) (by simp only [maxLen]; omega) (by omega) (by simp; omega) ?_; intro v' w1 hown' hgrow _)
    go_roundw
    case rel => exact ⟨k + 1, by omega, by go_num, by rw [HS.out]; exact hown', (hb3.alloc hwa _).grown hgrow (by simp; omega) (own_ge hown)⟩
    case measure => simp [intOf]; omega
  · obtain rfl : k = l.length := by omega
    rw [List.take_length] at hown; have HT := hide (Sl.of_own (enc := tsC) (l := l.map dec) tsC_len (by rw [List.length_map]; exact hown)); clear hown; go_wp2_with fail
    (with_reducible refine (Join_c c (l.map dec) _ _ HT.out (by rw [List.length_map]; omega) HJ.out).mono ?_); rintro e w2 ⟨rfl, hb2⟩; go_wp2; go_ret
    exact ⟨rfl, bcall hb hb2⟩
theorem Digits_int64 (c : UInt8) (v : Value) (l : List Int) (w : World) (h : Ints w v l) (hr : ∀ x ∈ l, 0 ≤ x ∧ x ≤ 1000000) (hlen : l.length ≤ 1000000) (hE : EnvP w) :
 Calls Tryz.prog 97 #[.string ⟨#[c]⟩, v] w fun e w' => e = .returned (.string ⟨(numsT c l).toArray⟩) ∧ Below w.heap.size w w' := by
 obtain ⟨i0, hi, hz0, hz1, hz2⟩ := info_parts infoStrPl; obtain ⟨A, cp, rfl, h1, h2, -⟩ := id h; unfold maxLen at h2; have HI := hide h; have HR := hide hr; have HE := hide hE; have HJ := hide (show (joinC c (l.map dec)).length ≤ 140737488355328 by have := numsT_len c l hr; unfold numsT at this; omega); clear h hr hE; go_enter Tryz.func97, Tryz.ntmps97
 go_wp2; go_loopw [5, 10] (fun r i wr => ∃ k : Nat, k ≤ l.length ∧ i = .int .i64 k ∧ wr.ownsRow w.heap.size 9 1 r k (((l.take k).map dec).flatMap tsC) ∧ Below w.heap.size w wr) (fun _ i _ => l.length - (intOf i).toNat)
 case atStart => exact ⟨0, Nat.zero_le _, rfl, World.ownsRow_nil _ _ _ _, Below.refl _ _⟩
 case round =>
  obtain ⟨k, hk, rfl, hown, hb⟩ := hrel; by_cases hlt : k < l.length
  · obtain ⟨b, off, rfl, -, c0⟩ := ints_at (HI.out.below hb) hlt
    obtain ⟨hx0, hx1⟩ := HR.out l[k] (List.getElem_mem hlt); have HS := hide (show ((l.take (k + 1)).map dec).flatMap tsC = ((l.take k).map dec).flatMap tsC ++ [.string ⟨(dec l[k]).toArray⟩] by
     rw [List.take_succ_eq_append_getElem hlt, List.map_append, List.flatMap_append]; rfl)
    generalize l[k] = x at *; obtain ⟨Ar, cr, rfl, hcr1, hcr2⟩ := own_form hown; have HO := hide hown; have HB := hide hb; have HX0 := hide hx0; have HX1 := hide hx1; clear hown hb hx0 hx1; go_wp2_with fail
    (with_reducible refine (FormatInt_c x _ HX0.out (by have := HX1.out; omega) (HE.out.below HB.out)).mono ?_); rintro e w2 ⟨rfl, hb2⟩; have hown := HO.out.kept (grown_of_below hb2 none) (by cases (Value.slice Ar k cr).ownBlock <;> simp); have hb3 := bcall HB.out hb2; have hwa := hb3.size; clear hb2; go_wp2_with (at_builtin; refine wpList_append_own _ rfl _ _ 63 rfl w.heap.size 9 i0 (.string ⟨#[]⟩) 1 16 Tryz.underlying63 hi hz0 hz1 hz2 rfl (by decide) _ _ _ rfl (hown.alloc _) ⟨_, 0, none⟩ 1 1 [.string ⟨(dec x).toArray⟩] rfl rfl (row_at _ _ _ (by simp)) (by simp [Value.oneCell']) (by simp only [maxLen]; omega) (by omega) (by simp; omega) ?_; intro v' w1 hown' hgrow _)
    go_roundw
    case rel => exact ⟨k + 1, by omega, by go_num, by rw [HS.out]; exact hown', (hb3.alloc hwa _).grown hgrow (by simp; omega) (own_ge hown)⟩
    case measure => simp [intOf]; omega
  · obtain rfl : k = l.length := by omega
    rw [List.take_length] at hown; have HT := hide (Sl.of_own (enc := tsC) (l := l.map dec) tsC_len (by rw [List.length_map]; exact hown)); clear hown; go_wp2_with fail
    (with_reducible refine (Join_c c (l.map dec) _ _ HT.out (by rw [List.length_map]; omega) HJ.out).mono ?_); rintro e w2 ⟨rfl, hb2⟩; go_wp2; go_ret
    exact ⟨rfl, bcall hb hb2⟩
end Go.Proofs.YtjbaiibbgplljaaGreatDoor
namespace Go.Proofs.YtjbaiibbgplljaaGreatDoor
open Go.RowKit Go.Joins
theorem Equal_picks (va vb : Value) (a b : List PP) (w : World) (ha : Picks w va a) (hb : Picks w vb b) :
 Calls Tryz.prog 43 #[va, vb] w fun e w' => e = .returned (.bool (decide (a = b))) ∧ Below w.heap.size w w' := by
 have ha' := ha; have hb' := hb; obtain ⟨A, c, rfl, h1, h2, -⟩ := ha'; obtain ⟨B, d, rfl, h3, h4, -⟩ := hb'; unfold maxLen at h2 h4; have HA := hide ha; have HB := hide hb; clear ha hb; by_cases hn : a.length = b.length
 · have q : (((a.length : Int)) != ((b.length : Int))) = false := by rw [bne_eq_false_iff_eq]; omega
   have HN := hide hn; clear hn; go_enter Tryz.func43, Tryz.ntmps43
   go_wp2; go_loopw [13] (fun i wr => ∃ k : Nat, k ≤ a.length ∧ i = .int .i64 k ∧ Below w.heap.size w wr ∧ Hid (a.take k = b.take k)) (fun i _ => a.length - (intOf i).toNat)
   case atStart => exact ⟨0, Nat.zero_le _, rfl, Below.refl _ _, hide (by simp)⟩
   case round =>
    obtain ⟨k, hk, rfl, hbw, HE⟩ := hrel; by_cases hlt : k < a.length
    · have hlb : k < b.length := by have := HN.out; omega
      obtain ⟨b1, o1, rfl, _, c0, c1⟩ := picks_at (HA.out.below hbw) hlt; obtain ⟨b2, o2, rfl, _, c2, c3⟩ := picks_at (HB.out.below hbw) hlb; obtain ⟨D, hD, hnp⟩ : ∃ D, D = decide (a[k] = b[k]) ∧ ∀ w, (binOp .neq 98 (.agg #[.int .i64 (a[k]).1, .int .i64 (a[k]).2]) (.agg #[.int .i64 (b[k]).1, .int .i64 (b[k]).2])).run Tryz.prog w = .ok (.bool (!D)) w :=
       ⟨_, rfl, fun w => by
        rw [neq_pick]; have : ((a[k]).1 == (b[k]).1 && (a[k]).2 == (b[k]).2) = decide (a[k] = b[k]) := by
         rw [Bool.eq_iff_iff, Bool.and_eq_true, beq_iff_eq, beq_iff_eq, decide_eq_true_eq, Prod.ext_iff]
        rw [this]⟩
      by_cases he : a[k] = b[k]
      · have e1 : D = true := hD.trans (decide_eq_true he)
        rw [e1] at hnp; have HE' := hide (show a.take (k + 1) = b.take (k + 1) by rw [List.take_succ_eq_append_getElem hlt, List.take_succ_eq_append_getElem hlb, HE.out, he]); clear e1 he hD; go_wp2; go_quiet (fail); go_wp2; go_roundw
        case rel => exact ⟨k + 1, by omega, by go_num, bdrewN hbw _, HE'⟩
        case measure => simp [intOf]; omega
      · have e1 : D = false := hD.trans (decide_eq_false he)
        rw [e1] at hnp; have HF := hide (show decide (a = b) = false by
         simp only [decide_eq_false_iff_not]; intro h; apply he
         simp [h])
        clear e1 he hD; go_wp2; go_quiet (fail); go_wp2; go_ret
        exact ⟨ret_bool HF.out.symm, bdrewN hbw _⟩
    · have HF := hide (show a = b by
       have h := HE.out; have := HN.out; rwa [List.take_of_length_le (by omega), List.take_of_length_le (by omega)] at h)
      go_wp2; go_ret
      exact ⟨ret_bool (by rw [HF.out]; simp), hbw⟩
 · have q : (((a.length : Int)) != ((b.length : Int))) = true := by rw [bne_iff_ne]; omega
   have HN := hide (show decide (a = b) = false by simp; intro e; exact hn (by rw [e])); clear hn; go_enter Tryz.func43, Tryz.ntmps43
   go_wp2; go_ret
   exact ⟨ret_bool HN.out.symm, Below.refl _ _⟩
theorem Equal_ops (va vb : Value) (a b : List Oq) (w : World) (ha : Oqs w va a) (hb : Oqs w vb b) :
 Calls Tryz.prog 42 #[va, vb] w fun e w' => e = .returned (.bool (decide (a = b))) ∧ Below w.heap.size w w' := by
 have ha' := ha; have hb' := hb; obtain ⟨A, c, rfl, h1, h2, -⟩ := ha'; obtain ⟨B, d, rfl, h3, h4, -⟩ := hb'; unfold maxLen at h2 h4; have HA := hide ha; have HB := hide hb; clear ha hb; by_cases hn : a.length = b.length
 · have q : (((a.length : Int)) != ((b.length : Int))) = false := by rw [bne_eq_false_iff_eq]; omega
   have HN := hide hn; clear hn; go_enter Tryz.func42, Tryz.ntmps42
   go_wp2; go_loopw [13] (fun i wr => ∃ k : Nat, k ≤ a.length ∧ i = .int .i64 k ∧ Below w.heap.size w wr ∧ Hid (a.take k = b.take k)) (fun i _ => a.length - (intOf i).toNat)
   case atStart => exact ⟨0, Nat.zero_le _, rfl, Below.refl _ _, hide (by simp)⟩
   case round =>
    obtain ⟨k, hk, rfl, hbw, HE⟩ := hrel; by_cases hlt : k < a.length
    · have hlb : k < b.length := by have := HN.out; omega
      obtain ⟨k1, r1, x1, z1, q1⟩ : ∃ k' r x z, a[k] = (⟨k', r, x, z⟩ : Oq) := ⟨_, _, _, _, rfl⟩; obtain ⟨k2, r2, x2, z2, q2⟩ : ∃ k' r x z, b[k] = (⟨k', r, x, z⟩ : Oq) := ⟨_, _, _, _, rfl⟩; obtain ⟨b1, o1, rfl, -, c0, c1, c2, c3⟩ := oq_at (HA.out.below hbw) hlt q1; obtain ⟨b2, o2, rfl, -, d0, d1, d2, d3⟩ := oq_at (HB.out.below hbw) hlb q2; obtain ⟨D, hD, hnp⟩ : ∃ D, D = decide (a[k] = b[k]) ∧ ∀ w, (binOp .neq 96 (qv k1 r1 x1 z1) (qv k2 r2 x2 z2)).run Tryz.prog w = .ok (.bool (!D)) w :=
       ⟨_, rfl, fun w => by rw [neq_cop, q1, q2]⟩
      clear q1 q2; by_cases he : a[k] = b[k]
      · have e1 : D = true := hD.trans (decide_eq_true he)
        rw [e1] at hnp; have HE' := hide (show a.take (k + 1) = b.take (k + 1) by rw [List.take_succ_eq_append_getElem hlt, List.take_succ_eq_append_getElem hlb, HE.out, he]); clear e1 he hD; go_wp2; go_quiet (fail); go_wp2; go_roundw
        case rel => exact ⟨k + 1, by omega, by go_num, bdrewN hbw _, HE'⟩
        case measure => simp [intOf]; omega
      · have e1 : D = false := hD.trans (decide_eq_false he)
        rw [e1] at hnp; have HF := hide (show decide (a = b) = false by
         simp only [decide_eq_false_iff_not]; intro h; apply he
         simp [h])
        clear e1 he hD; go_wp2; go_quiet (fail); go_wp2; go_ret
        exact ⟨ret_bool HF.out.symm, bdrewN hbw _⟩
    · have HF := hide (show a = b by
       have h := HE.out; have := HN.out; rwa [List.take_of_length_le (by omega), List.take_of_length_le (by omega)] at h)
      go_wp2; go_ret
      exact ⟨ret_bool (by rw [HF.out]; simp), hbw⟩
 · have q : (((a.length : Int)) != ((b.length : Int))) = true := by rw [bne_iff_ne]; omega
   have HN := hide (show decide (a = b) = false by simp; intro e; exact hn (by rw [e])); clear hn; go_enter Tryz.func42, Tryz.ntmps42
   go_wp2; go_ret
   exact ⟨ret_bool HN.out.symm, Below.refl _ _⟩
theorem EqualFunc_ops (va vb : Value) (a b : List (List Oq)) (w : World) (ha : GridO w va a) (hb : GridO w vb b) :
 Calls Tryz.prog 41 #[va, vb, .func (.func 42) #[] #[]] w fun e w' => e = .returned (.bool (decide (a = b))) ∧ Below w.heap.size w w' := by
 obtain ⟨A, c, rfl, h1, h2⟩ := ha.form; obtain ⟨B, d, rfl, h3, h4⟩ := hb.form; unfold maxLen at h2 h4; have HA := hide ha; have HB := hide hb; clear ha hb; by_cases hn : a.length = b.length
 · have q : (((a.length : Int)) != ((b.length : Int))) = false := by rw [bne_eq_false_iff_eq]; omega
   have HN := hide hn; clear hn; go_enter Tryz.func41, Tryz.ntmps41
   go_wp2; go_loopw [17] (fun i wr => ∃ k : Nat, k ≤ a.length ∧ i = .int .i64 k ∧ Below w.heap.size w wr ∧ Hid (a.take k = b.take k)) (fun i _ => a.length - (intOf i).toNat)
   case atStart => exact ⟨0, Nat.zero_le _, rfl, Below.refl _ _, hide (by simp)⟩
   case round =>
    obtain ⟨k, hk, rfl, hbw, HE⟩ := hrel; by_cases hlt : k < a.length
    · have hlb : k < b.length := by have := HN.out; omega
      obtain ⟨b1, o1, u1, rfl, -, c0, r1⟩ := gridO_at (HA.out.below hbw) hlt; obtain ⟨b2, o2, u2, rfl, -, c2, r2⟩ := gridO_at (HB.out.below hbw) hlb; have hT := hide (show a.take (k + 1) = a.take k ++ [a[k]] ∧ b.take (k + 1) = b.take k ++ [b[k]] from ⟨List.take_succ_eq_append_getElem hlt, List.take_succ_eq_append_getElem hlb⟩); have hG := hide (show a = b → a[k] = b[k] by intro h; simp [h]); generalize a[k] = x at *; generalize b[k] = y at *; have R1 := hide r1; have R2 := hide r2; obtain ⟨A1, d1, rfl, -⟩ := r1; obtain ⟨A2, d2, rfl, -⟩ := r2; go_wp2_with fail
      (with_reducible refine (Equal_ops _ _ x y _ R1.out R2.out).mono ?_); rintro e w2 ⟨rfl, hb2⟩; by_cases he : x = y
      · rw [decide_eq_true he]
        have HE' := hide (show a.take (k + 1) = b.take (k + 1) by rw [hT.out.1, hT.out.2, HE.out, he]); clear he; go_wp2; go_roundw
        case rel => exact ⟨k + 1, by omega, by go_num, bcall hbw hb2, HE'⟩
        case measure => simp [intOf]; omega
      · rw [decide_eq_false he]
        have HF := hide (show decide (a = b) = false by
         simp only [decide_eq_false_iff_not]; exact fun h => he (hG.out h))
        clear he; go_wp2; go_ret
        exact ⟨ret_bool HF.out.symm, bcall hbw hb2⟩
    · have HF := hide (show a = b by
       have h := HE.out; have := HN.out; rwa [List.take_of_length_le (by omega), List.take_of_length_le (by omega)] at h)
      go_wp2; go_ret
      exact ⟨ret_bool (by rw [HF.out]; simp), hbw⟩
 · have q : (((a.length : Int)) != ((b.length : Int))) = true := by rw [bne_iff_ne]; omega
   have HN := hide (show decide (a = b) = false by simp; intro e; exact hn (by rw [e])); clear hn; go_enter Tryz.func41, Tryz.ntmps41
   go_wp2; go_ret
   exact ⟨ret_bool HN.out.symm, Below.refl _ _⟩
abbrev numV (a b c d e f g h : Int) : Value := .agg #[.int .i64 a, .int .i64 b, .int .i64 c, .int .i64 d, .int .i64 e, .int .i64 f, .int .i64 g, .int .i64 h]
theorem eqIn_nums (a b c d e f g h a' b' c' d' e' f' g' h' : Int) (w : World) : (Op.equalIn 10000 89 (numV a b c d e f g h) (numV a' b' c' d' e' f' g' h')).run Tryz.prog w = .ok (decide ([a, b, c, d, e, f, g, h] = [a', b', c', d', e', f', g', h'])) w := by
 obtain ⟨i, hi⟩ := Option.isSome_iff_exists.1 (show (Tryz.prog.info? 2).isSome = true by kernel_rfl); rw [run_equalIn_array w 9999 _ _ (n := 8) (e := 2) (by kernel_rfl) hi]; have hc : Tryz.prog.cellsOf 2 = 1 := by kernel_rfl
 have hu : Tryz.prog.underlying 2 = some (.int .i64) := by kernel_rfl
 rw [hc]; have hr : List.range 8 = [0, 1, 2, 3, 4, 5, 6, 7] := rfl; rw [hr]; have key : ∀ (xs ys : List Int) (is : List Nat) (X Y : Array Value), (∀ (p i : Nat), is[p]? = some i → ∃ x y, xs[p]? = some x ∧ ys[p]? = some y ∧ (part 2 X (i * 1)).run Tryz.prog w = .ok (.int .i64 x) w ∧ (part 2 Y (i * 1)).run Tryz.prog w = .ok (.int .i64 y) w) →
  xs.length = is.length → ys.length = is.length → (Op.eqItems 9999 2 1 X Y is).run Tryz.prog w = .ok (decide (xs = ys)) w := by
  intro xs; induction xs with
  | nil =>
    intro ys is X Y _ h1 h2; obtain rfl : is = [] := List.length_eq_zero_iff.1 h1.symm; obtain rfl : ys = [] := List.length_eq_zero_iff.1 h2; simp [Op.eqItems]
  | cons x xs ih =>
    intro ys is X Y hp h1 h2; cases is with
    | nil => simp at h1
    | cons i is =>
      cases ys with
      | nil => simp at h2
      | cons y ys =>
        obtain ⟨x', y', ex, ey, p1, p2⟩ := hp 0 i rfl; obtain rfl : x = x' := by simpa using ex
        obtain rfl : y = y' := by simpa using ey
        rw [Op.eqItems, Sem.run_bind, p1, Result.andThen_ok, Sem.run_bind, p2, Result.andThen_ok, Sem.run_bind, run_equalIn_int w 9998 _ .i64 .i64 x y hu, Result.andThen_ok]; by_cases hxy : x = y
        · have := ih ys is X Y (fun p j hj => by obtain ⟨u, v, q⟩ := hp (p + 1) j (by simpa using hj); exact ⟨u, v, by simpa using q⟩) (by simpa using h1) (by simpa using h2)
          simp [hxy, this]
        · simp [hxy]
 refine key _ _ _ _ _ ?_ rfl rfl; intro p i hp; have : p < 8 := (List.getElem?_eq_some_iff.1 hp).1; rcases (by omega : p = 0 ∨ p = 1 ∨ p = 2 ∨ p = 3 ∨ p = 4 ∨ p = 5 ∨ p = 6 ∨ p = 7) with rfl | rfl | rfl | rfl | rfl | rfl | rfl | rfl
 all_goals (simp only [List.getElem?_cons_succ, List.getElem?_cons_zero, Option.some.injEq] at hp; subst hp; refine ⟨_, _, rfl, rfl, ?_, ?_⟩ <;> simp [go_sem])
theorem eql_nums (a b c d e f g h a' b' c' d' e' f' g' h' : Int) (w : World) : (binOp .eql 89 (numV a b c d e f g h) (numV a' b' c' d' e' f' g' h')).run Tryz.prog w = .ok (.bool (decide ([a, b, c, d, e, f, g, h] = [a', b', c', d', e', f', g', h']))) w := by
 rw [run_eql_struct, eqIn_nums]; rfl
theorem numbersOf_any (a b c d e f g h n : Int) (ob : Value) (s : Nat) (rg pg pk : Value) (w : World) :
 Calls Tryz.prog 37 #[planV a b c d e f g h n ob s rg pg pk] w fun x w' => x = .returned (numV a b c d e f g h) ∧ Below w.heap.size w w' := by
 obtain ⟨w1, e1, hb1, hs1, X⟩ := bp_new w a b c d e f g h n ob s rg pg pk 30; have HE := hide e1; have HB1 := hide hb1; have HX := hide X; have HS1 := hide hs1; have HN := hide (show (w1.alloc (.cells #[.int .i64 a, .int .i64 b, .int .i64 c, .int .i64 d, .int .i64 e, .int .i64 f, .int .i64 g, .int .i64 h] 89)).heap[w.heap.size + 1]? = some (.cells #[.int .i64 a, .int .i64 b, .int .i64 c, .int .i64 d, .int .i64 e, .int .i64 f, .int .i64 g, .int .i64 h] 89 (0, 0)) from by rw [← hs1]; exact heap_alloc_new w1 _); obtain ⟨x0, x1, x2, x3, x4, x5, x6, x7⟩ := (X.below ((Below.refl _ w1).alloc (Nat.le_refl _) (.cells #[.int .i64 0, .int .i64 0, .int .i64 0, .int .i64 0, .int .i64 0, .int .i64 0, .int .i64 0, .int .i64 0] 89))).all; clear e1 X hb1 hs1; unfold planV; go_enter Tryz.func37, Tryz.ntmps37
 go_wp2_with fail
 rw [HE.out]; go_wp2; refine bodyPost_ret (results_row Tryz.results37 (w.heap.size + 1) rfl _ _ _ _ HN.out Tryz.underlying89 rfl (by kernel_rfl)) rfl ?_; exact ⟨rfl, (HB1.out).alloc (by rw [HS1.out]; omega) _⟩
theorem Bp.two {t t' : TypeId} {w w' : World} {B B' : Nat} {a b c d e f g h n : Int} {ob : Value} {s : Nat} {rg pg pk : Value} {a' b' c' d' e' f' g' h' n' : Int} {ob' : Value} {s' : Nat} {rg' pg' pk' : Value} (k : Bp t w B a b c d e f g h n ob s rg pg pk) (k' : Bp t' w B' a' b' c' d' e' f' g' h' n' ob' s' rg' pg' pk') (hb : Below w.heap.size w w') :
 (PC w' B (.int .i64 a) (.int .i64 b) (.int .i64 c) (.int .i64 d) (.int .i64 e) (.int .i64 f) (.int .i64 g) (.int .i64 h) (.int .i64 n) ob (.int .u64 (s : Int)) rg pg pk) ∧ (PC w' B' (.int .i64 a') (.int .i64 b') (.int .i64 c') (.int .i64 d') (.int .i64 e') (.int .i64 f') (.int .i64 g') (.int .i64 h') (.int .i64 n') ob' (.int .u64 (s' : Int)) rg' pg' pk') := ⟨(k.below hb).cells, (k'.below hb).cells⟩
theorem pSame_0 (a b c d e f g h n : Int) (ob : Value) (s : Nat) (rg pg pk : Value) (lo lr : Rws) (lp : List (List Oq)) (lk : List PP) (a' b' c' d' e' f' g' h' n' : Int) (ob' : Value) (s' : Nat) (rg' pg' pk' : Value) (lo' lr' : Rws) (lp' : List (List Oq)) (lk' : List PP) (w w2 : World) (HE : Hid ((w.alloc (.cells #[.int .i64 a, .int .i64 b, .int .i64 c, .int .i64 d, .int .i64 e, .int .i64 f, .int .i64 g, .int .i64 h, .int .i64 n, ob, .int .u64 (s : Int), rg, pg, pk] 30)).alloc (.cells #[.int .i64 a', .int .i64 b', .int .i64 c', .int .i64 d', .int .i64 e', .int .i64 f', .int .i64 g', .int .i64 h', .int .i64 n', ob', .int .u64 (s' : Int), rg', pg', pk'] 30) = w2)) (HB2 : Hid (Below w.heap.size w w2))
 (HX : Hid (Bp 30 w2 w.heap.size a b c d e f g h n ob s rg pg pk)) (HY : Hid (Bp 30 w2 (w.heap.size + 1) a' b' c' d' e' f' g' h' n' ob' s' rg' pg' pk')) (_HP : Hid (PlanR w2 ob rg pg pk ⟨a, b, c, d, e, f, g, h, n, lo, s, lr, lp, lk⟩)) (_HR : Hid (PlanR w2 ob' rg' pg' pk' ⟨a', b', c', d', e', f', g', h', n', lo', s', lr', lp', lk'⟩)) (Q0 : Hid ((decide ([a, b, c, d, e, f, g, h] = [a', b', c', d', e', f', g', h'])) = false)) :
 Calls Tryz.prog 9 #[planV a b c d e f g h n ob s rg pg pk, planV a' b' c' d' e' f' g' h' n' ob' s' rg' pg' pk'] w fun x w' => x = .returned (.bool false) ∧ Below w.heap.size w w' := by
 have HBC := hide (belowD (Below.refl w2.heap.size w2)); have hq0 := eql_nums a b c d e f g h a' b' c' d' e' f' g' h'; rw [Q0.out] at hq0; unfold planV; go_enter Tryz.func9, Tryz.ntmps9
 go_wp2; rw [HE.out]; refine wp_region_held_drew (S := fun w' => (PC w' (w.heap.size) (.int .i64 a) (.int .i64 b) (.int .i64 c) (.int .i64 d) (.int .i64 e) (.int .i64 f) (.int .i64 g) (.int .i64 h) (.int .i64 n) ob (.int .u64 (s : Int)) rg pg pk) ∧ (PC w' (w.heap.size + 1) (.int .i64 a') (.int .i64 b') (.int .i64 c') (.int .i64 d') (.int .i64 e') (.int .i64 f') (.int .i64 g') (.int .i64 h') (.int .i64 n') ob' (.int .u64 (s' : Int)) rg' pg' pk')) (by kernel_rfl) ?_ (fun hHeld => ?_)
 · exact (by exact HX.out.two HY.out HBC.out)
 refine tk 0 ?_; refine tk 2 ?_; refine r1 1 (fun K hK => ?_); go_simp; go_at_call 37; (with_reducible refine (numbersOf_any a b c d e f g h n ob s rg pg pk _).mono ?_); rintro x w4 ⟨rfl, hb⟩; have HBC := hide (bcall HBC.out hb); clear hb; (try go_simp); refine go_ hK (by exact HX.out.two HY.out HBC.out) (fun hHeld => ?_); refine r1 3 (fun K hK => ?_); go_simp; go_at_call 37; (with_reducible refine (numbersOf_any a' b' c' d' e' f' g' h' n' ob' s' rg' pg' pk' _).mono ?_); rintro x w4 ⟨rfl, hb⟩; have HBC := hide (bcall HBC.out hb); clear hb; (try go_simp); refine go_ hK (by exact HX.out.two HY.out HBC.out) (fun hHeld => ?_); refine tk 4 ?_; refine tk 5 ?_; refine tu 6 ?_; refine tu 7 ?_; refine tu 8 ?_; refine tu 9 ?_; refine tu 10 ?_; refine tk 11 ?_; refine tk 12 ?_; refine tu 13 ?_; refine tu 14 ?_; refine tu 15 ?_; refine tu 16 ?_; refine tu 17 ?_; refine tk 18 ?_; refine tk 19 ?_; refine tu 20 ?_; refine tu 21 ?_; refine tu 22 ?_; refine tu 23 ?_; refine tu 24 ?_; refine tk 25 ?_; refine tk 26 ?_; refine tu 27 ?_; refine tu 28 ?_; refine tu 29 ?_; refine tu 30 ?_; refine tu 31 ?_; refine tk 32 ?_; refine tk 33 ?_; refine tu 34 ?_; refine tu 35 ?_; refine tu 36 ?_; refine tu 37 ?_; refine tu 38 ?_; refine tk 39 ?_; refine tk 40 ?_; refine wpAnyH_done (by kernel_rfl) ?_ _; go_wp2; go_ret
 exact ⟨rfl, bcall HB2.out HBC.out⟩
theorem pSame_1 (a b c d e f g h n : Int) (ob : Value) (s : Nat) (rg pg pk : Value) (lo lr : Rws) (lp : List (List Oq)) (lk : List PP) (a' b' c' d' e' f' g' h' n' : Int) (ob' : Value) (s' : Nat) (rg' pg' pk' : Value) (lo' lr' : Rws) (lp' : List (List Oq)) (lk' : List PP) (w w2 : World) (HE : Hid ((w.alloc (.cells #[.int .i64 a, .int .i64 b, .int .i64 c, .int .i64 d, .int .i64 e, .int .i64 f, .int .i64 g, .int .i64 h, .int .i64 n, ob, .int .u64 (s : Int), rg, pg, pk] 30)).alloc (.cells #[.int .i64 a', .int .i64 b', .int .i64 c', .int .i64 d', .int .i64 e', .int .i64 f', .int .i64 g', .int .i64 h', .int .i64 n', ob', .int .u64 (s' : Int), rg', pg', pk'] 30) = w2)) (HB2 : Hid (Below w.heap.size w w2))
 (HX : Hid (Bp 30 w2 w.heap.size a b c d e f g h n ob s rg pg pk)) (HY : Hid (Bp 30 w2 (w.heap.size + 1) a' b' c' d' e' f' g' h' n' ob' s' rg' pg' pk')) (HP : Hid (PlanR w2 ob rg pg pk ⟨a, b, c, d, e, f, g, h, n, lo, s, lr, lp, lk⟩)) (HR : Hid (PlanR w2 ob' rg' pg' pk' ⟨a', b', c', d', e', f', g', h', n', lo', s', lr', lp', lk'⟩)) (Q0 : Hid ((decide ([a, b, c, d, e, f, g, h] = [a', b', c', d', e', f', g', h'])) = true)) (Q1 : Hid ((sameF n lo n' lo') = false)) :
 Calls Tryz.prog 9 #[planV a b c d e f g h n ob s rg pg pk, planV a' b' c' d' e' f' g' h' n' ob' s' rg' pg' pk'] w fun x w' => x = .returned (.bool false) ∧ Below w.heap.size w w' := by
 have HBC := hide (belowD (Below.refl w2.heap.size w2)); have hq0 := eql_nums a b c d e f g h a' b' c' d' e' f' g' h'; rw [Q0.out] at hq0; unfold planV; go_enter Tryz.func9, Tryz.ntmps9
 go_wp2; rw [HE.out]; refine wp_region_held_drew (S := fun w' => (PC w' (w.heap.size) (.int .i64 a) (.int .i64 b) (.int .i64 c) (.int .i64 d) (.int .i64 e) (.int .i64 f) (.int .i64 g) (.int .i64 h) (.int .i64 n) ob (.int .u64 (s : Int)) rg pg pk) ∧ (PC w' (w.heap.size + 1) (.int .i64 a') (.int .i64 b') (.int .i64 c') (.int .i64 d') (.int .i64 e') (.int .i64 f') (.int .i64 g') (.int .i64 h') (.int .i64 n') ob' (.int .u64 (s' : Int)) rg' pg' pk')) (by kernel_rfl) ?_ (fun hHeld => ?_)
 · exact (by exact HX.out.two HY.out HBC.out)
 refine tk 0 ?_; refine tk 2 ?_; refine r1 1 (fun K hK => ?_); go_simp; go_at_call 37; (with_reducible refine (numbersOf_any a b c d e f g h n ob s rg pg pk _).mono ?_); rintro x w4 ⟨rfl, hb⟩; have HBC := hide (bcall HBC.out hb); clear hb; (try go_simp); refine go_ hK (by exact HX.out.two HY.out HBC.out) (fun hHeld => ?_); refine r1 3 (fun K hK => ?_); go_simp; go_at_call 37; (with_reducible refine (numbersOf_any a' b' c' d' e' f' g' h' n' ob' s' rg' pg' pk' _).mono ?_); rintro x w4 ⟨rfl, hb⟩; have HBC := hide (bcall HBC.out hb); clear hb; (try go_simp); refine go_ hK (by exact HX.out.two HY.out HBC.out) (fun hHeld => ?_); refine tk 4 ?_; refine tk 5 ?_; refine tk 6 ?_; refine tk 7 ?_; refine tk 8 ?_; refine tk 9 ?_; refine r1 10 (fun K hK => ?_); go_simp; go_at_call 38; (with_reducible refine (Same_cHp n n' ob ob' lo lo' _ (HP.out.ob.below HBC.out) (HR.out.ob.below HBC.out) _ Q1.out).mono ?_); rintro x w4 ⟨rfl, hb⟩; have HBC := hide (bcall HBC.out hb); clear hb; (try go_simp); refine go_ hK (by exact HX.out.two HY.out HBC.out) (fun hHeld => ?_); refine tk 11 ?_; refine tk 12 ?_; refine tu 13 ?_; refine tu 14 ?_; refine tu 15 ?_; refine tu 16 ?_; refine tu 17 ?_; refine tk 18 ?_; refine tk 19 ?_; refine tu 20 ?_; refine tu 21 ?_; refine tu 22 ?_; refine tu 23 ?_; refine tu 24 ?_; refine tk 25 ?_; refine tk 26 ?_; refine tu 27 ?_; refine tu 28 ?_; refine tu 29 ?_; refine tu 30 ?_; refine tu 31 ?_; refine tk 32 ?_; refine tk 33 ?_; refine tu 34 ?_; refine tu 35 ?_; refine tu 36 ?_; refine tu 37 ?_; refine tu 38 ?_; refine tk 39 ?_; refine tk 40 ?_; refine wpAnyH_done (by kernel_rfl) ?_ _; go_wp2; go_ret
 exact ⟨rfl, bcall HB2.out HBC.out⟩
theorem pSame_2 (a b c d e f g h n : Int) (ob : Value) (s : Nat) (rg pg pk : Value) (lo lr : Rws) (lp : List (List Oq)) (lk : List PP) (a' b' c' d' e' f' g' h' n' : Int) (ob' : Value) (s' : Nat) (rg' pg' pk' : Value) (lo' lr' : Rws) (lp' : List (List Oq)) (lk' : List PP) (w w2 : World) (HE : Hid ((w.alloc (.cells #[.int .i64 a, .int .i64 b, .int .i64 c, .int .i64 d, .int .i64 e, .int .i64 f, .int .i64 g, .int .i64 h, .int .i64 n, ob, .int .u64 (s : Int), rg, pg, pk] 30)).alloc (.cells #[.int .i64 a', .int .i64 b', .int .i64 c', .int .i64 d', .int .i64 e', .int .i64 f', .int .i64 g', .int .i64 h', .int .i64 n', ob', .int .u64 (s' : Int), rg', pg', pk'] 30) = w2)) (HB2 : Hid (Below w.heap.size w w2))
 (HX : Hid (Bp 30 w2 w.heap.size a b c d e f g h n ob s rg pg pk)) (HY : Hid (Bp 30 w2 (w.heap.size + 1) a' b' c' d' e' f' g' h' n' ob' s' rg' pg' pk')) (HP : Hid (PlanR w2 ob rg pg pk ⟨a, b, c, d, e, f, g, h, n, lo, s, lr, lp, lk⟩)) (HR : Hid (PlanR w2 ob' rg' pg' pk' ⟨a', b', c', d', e', f', g', h', n', lo', s', lr', lp', lk'⟩)) (Q0 : Hid ((decide ([a, b, c, d, e, f, g, h] = [a', b', c', d', e', f', g', h'])) = true)) (Q1 : Hid ((sameF n lo n' lo') = true)) (Q2 : Hid ((decide (s = s')) = false)) :
 Calls Tryz.prog 9 #[planV a b c d e f g h n ob s rg pg pk, planV a' b' c' d' e' f' g' h' n' ob' s' rg' pg' pk'] w fun x w' => x = .returned (.bool false) ∧ Below w.heap.size w w' := by
 have HBC := hide (belowD (Below.refl w2.heap.size w2)); have hq0 := eql_nums a b c d e f g h a' b' c' d' e' f' g' h'; rw [Q0.out] at hq0; have e2 : ((s : Int) == (s' : Int)) = false := by have q := Q2.out; rw [decide_eq_false_iff_not] at q; rw [beq_eq_false_iff_ne]; omega
 unfold planV; go_enter Tryz.func9, Tryz.ntmps9
 go_wp2; rw [HE.out]; refine wp_region_held_drew (S := fun w' => (PC w' (w.heap.size) (.int .i64 a) (.int .i64 b) (.int .i64 c) (.int .i64 d) (.int .i64 e) (.int .i64 f) (.int .i64 g) (.int .i64 h) (.int .i64 n) ob (.int .u64 (s : Int)) rg pg pk) ∧ (PC w' (w.heap.size + 1) (.int .i64 a') (.int .i64 b') (.int .i64 c') (.int .i64 d') (.int .i64 e') (.int .i64 f') (.int .i64 g') (.int .i64 h') (.int .i64 n') ob' (.int .u64 (s' : Int)) rg' pg' pk')) (by kernel_rfl) ?_ (fun hHeld => ?_)
 · exact (by exact HX.out.two HY.out HBC.out)
 refine tk 0 ?_; refine tk 2 ?_; refine r1 1 (fun K hK => ?_); go_simp; go_at_call 37; (with_reducible refine (numbersOf_any a b c d e f g h n ob s rg pg pk _).mono ?_); rintro x w4 ⟨rfl, hb⟩; have HBC := hide (bcall HBC.out hb); clear hb; (try go_simp); refine go_ hK (by exact HX.out.two HY.out HBC.out) (fun hHeld => ?_); refine r1 3 (fun K hK => ?_); go_simp; go_at_call 37; (with_reducible refine (numbersOf_any a' b' c' d' e' f' g' h' n' ob' s' rg' pg' pk' _).mono ?_); rintro x w4 ⟨rfl, hb⟩; have HBC := hide (bcall HBC.out hb); clear hb; (try go_simp); refine go_ hK (by exact HX.out.two HY.out HBC.out) (fun hHeld => ?_); refine tk 4 ?_; refine tk 5 ?_; refine tk 6 ?_; refine tk 7 ?_; refine tk 8 ?_; refine tk 9 ?_; refine r1 10 (fun K hK => ?_); go_simp; go_at_call 38; (with_reducible refine (Same_cHp n n' ob ob' lo lo' _ (HP.out.ob.below HBC.out) (HR.out.ob.below HBC.out) _ Q1.out).mono ?_); rintro x w4 ⟨rfl, hb⟩; have HBC := hide (bcall HBC.out hb); clear hb; (try go_simp); refine go_ hK (by exact HX.out.two HY.out HBC.out) (fun hHeld => ?_); refine tk 11 ?_; refine tk 12 ?_; refine tk 13 ?_; refine tk 14 ?_; refine tk 15 ?_; refine tk 16 ?_; refine tk 17 ?_; refine tk 18 ?_; refine tk 19 ?_; refine tu 20 ?_; refine tu 21 ?_; refine tu 22 ?_; refine tu 23 ?_; refine tu 24 ?_; refine tk 25 ?_; refine tk 26 ?_; refine tu 27 ?_; refine tu 28 ?_; refine tu 29 ?_; refine tu 30 ?_; refine tu 31 ?_; refine tk 32 ?_; refine tk 33 ?_; refine tu 34 ?_; refine tu 35 ?_; refine tu 36 ?_; refine tu 37 ?_; refine tu 38 ?_; refine tk 39 ?_; refine tk 40 ?_; refine wpAnyH_done (by kernel_rfl) ?_ _; go_wp2; go_ret
 exact ⟨rfl, bcall HB2.out HBC.out⟩
theorem pSame_3 (a b c d e f g h n : Int) (ob : Value) (s : Nat) (rg pg pk : Value) (lo lr : Rws) (lp : List (List Oq)) (lk : List PP) (a' b' c' d' e' f' g' h' n' : Int) (ob' : Value) (s' : Nat) (rg' pg' pk' : Value) (lo' lr' : Rws) (lp' : List (List Oq)) (lk' : List PP) (w w2 : World) (HE : Hid ((w.alloc (.cells #[.int .i64 a, .int .i64 b, .int .i64 c, .int .i64 d, .int .i64 e, .int .i64 f, .int .i64 g, .int .i64 h, .int .i64 n, ob, .int .u64 (s : Int), rg, pg, pk] 30)).alloc (.cells #[.int .i64 a', .int .i64 b', .int .i64 c', .int .i64 d', .int .i64 e', .int .i64 f', .int .i64 g', .int .i64 h', .int .i64 n', ob', .int .u64 (s' : Int), rg', pg', pk'] 30) = w2)) (HB2 : Hid (Below w.heap.size w w2))
 (HX : Hid (Bp 30 w2 w.heap.size a b c d e f g h n ob s rg pg pk)) (HY : Hid (Bp 30 w2 (w.heap.size + 1) a' b' c' d' e' f' g' h' n' ob' s' rg' pg' pk')) (HP : Hid (PlanR w2 ob rg pg pk ⟨a, b, c, d, e, f, g, h, n, lo, s, lr, lp, lk⟩)) (HR : Hid (PlanR w2 ob' rg' pg' pk' ⟨a', b', c', d', e', f', g', h', n', lo', s', lr', lp', lk'⟩)) (Q0 : Hid ((decide ([a, b, c, d, e, f, g, h] = [a', b', c', d', e', f', g', h'])) = true)) (Q1 : Hid ((sameF n lo n' lo') = true)) (Q2 : Hid ((decide (s = s')) = true)) (Q3 : Hid ((decide (lr = lr')) = false)) :
 Calls Tryz.prog 9 #[planV a b c d e f g h n ob s rg pg pk, planV a' b' c' d' e' f' g' h' n' ob' s' rg' pg' pk'] w fun x w' => x = .returned (.bool false) ∧ Below w.heap.size w w' := by
 have HBC := hide (belowD (Below.refl w2.heap.size w2)); have hq0 := eql_nums a b c d e f g h a' b' c' d' e' f' g' h'; rw [Q0.out] at hq0; have e2 : ((s : Int) == (s' : Int)) = true := by have q := Q2.out; rw [decide_eq_true_eq] at q; rw [beq_iff_eq, q]
 unfold planV; go_enter Tryz.func9, Tryz.ntmps9
 go_wp2; rw [HE.out]; refine wp_region_held_drew (S := fun w' => (PC w' (w.heap.size) (.int .i64 a) (.int .i64 b) (.int .i64 c) (.int .i64 d) (.int .i64 e) (.int .i64 f) (.int .i64 g) (.int .i64 h) (.int .i64 n) ob (.int .u64 (s : Int)) rg pg pk) ∧ (PC w' (w.heap.size + 1) (.int .i64 a') (.int .i64 b') (.int .i64 c') (.int .i64 d') (.int .i64 e') (.int .i64 f') (.int .i64 g') (.int .i64 h') (.int .i64 n') ob' (.int .u64 (s' : Int)) rg' pg' pk')) (by kernel_rfl) ?_ (fun hHeld => ?_)
 · exact (by exact HX.out.two HY.out HBC.out)
 refine tk 0 ?_; refine tk 2 ?_; refine r1 1 (fun K hK => ?_); go_simp; go_at_call 37; (with_reducible refine (numbersOf_any a b c d e f g h n ob s rg pg pk _).mono ?_); rintro x w4 ⟨rfl, hb⟩; have HBC := hide (bcall HBC.out hb); clear hb; (try go_simp); refine go_ hK (by exact HX.out.two HY.out HBC.out) (fun hHeld => ?_); refine r1 3 (fun K hK => ?_); go_simp; go_at_call 37; (with_reducible refine (numbersOf_any a' b' c' d' e' f' g' h' n' ob' s' rg' pg' pk' _).mono ?_); rintro x w4 ⟨rfl, hb⟩; have HBC := hide (bcall HBC.out hb); clear hb; (try go_simp); refine go_ hK (by exact HX.out.two HY.out HBC.out) (fun hHeld => ?_); refine tk 4 ?_; refine tk 5 ?_; refine tk 6 ?_; refine tk 7 ?_; refine tk 8 ?_; refine tk 9 ?_; refine r1 10 (fun K hK => ?_); go_simp; go_at_call 38; (with_reducible refine (Same_cHp n n' ob ob' lo lo' _ (HP.out.ob.below HBC.out) (HR.out.ob.below HBC.out) _ Q1.out).mono ?_); rintro x w4 ⟨rfl, hb⟩; have HBC := hide (bcall HBC.out hb); clear hb; (try go_simp); refine go_ hK (by exact HX.out.two HY.out HBC.out) (fun hHeld => ?_); refine tk 11 ?_; refine tk 12 ?_; refine tk 13 ?_; refine tk 14 ?_; refine tk 15 ?_; refine tk 16 ?_; refine tk 17 ?_; refine tk 18 ?_; refine tk 19 ?_; refine tk 20 ?_; refine tk 21 ?_; refine tk 22 ?_; refine tk 23 ?_; refine r1 24 (fun K hK => ?_); go_simp; go_at_call 39; (with_reducible refine (EqualFunc_rows rg rg' lr lr' _ (HP.out.rg.below HBC.out) (HR.out.rg.below HBC.out)).mono ?_); rintro x w4 ⟨rfl, hb⟩; rw [Q3.out]; have HBC := hide (bcall HBC.out hb); clear hb; (try go_simp); refine go_ hK (by exact HX.out.two HY.out HBC.out) (fun hHeld => ?_); refine tk 25 ?_; refine tk 26 ?_; refine tu 27 ?_; refine tu 28 ?_; refine tu 29 ?_; refine tu 30 ?_; refine tu 31 ?_; refine tk 32 ?_; refine tk 33 ?_; refine tu 34 ?_; refine tu 35 ?_; refine tu 36 ?_; refine tu 37 ?_; refine tu 38 ?_; refine tk 39 ?_; refine tk 40 ?_; refine wpAnyH_done (by kernel_rfl) ?_ _; go_wp2; go_ret
 exact ⟨rfl, bcall HB2.out HBC.out⟩
theorem pSame_4 (a b c d e f g h n : Int) (ob : Value) (s : Nat) (rg pg pk : Value) (lo lr : Rws) (lp : List (List Oq)) (lk : List PP) (a' b' c' d' e' f' g' h' n' : Int) (ob' : Value) (s' : Nat) (rg' pg' pk' : Value) (lo' lr' : Rws) (lp' : List (List Oq)) (lk' : List PP) (w w2 : World) (HE : Hid ((w.alloc (.cells #[.int .i64 a, .int .i64 b, .int .i64 c, .int .i64 d, .int .i64 e, .int .i64 f, .int .i64 g, .int .i64 h, .int .i64 n, ob, .int .u64 (s : Int), rg, pg, pk] 30)).alloc (.cells #[.int .i64 a', .int .i64 b', .int .i64 c', .int .i64 d', .int .i64 e', .int .i64 f', .int .i64 g', .int .i64 h', .int .i64 n', ob', .int .u64 (s' : Int), rg', pg', pk'] 30) = w2)) (HB2 : Hid (Below w.heap.size w w2))
 (HX : Hid (Bp 30 w2 w.heap.size a b c d e f g h n ob s rg pg pk)) (HY : Hid (Bp 30 w2 (w.heap.size + 1) a' b' c' d' e' f' g' h' n' ob' s' rg' pg' pk')) (HP : Hid (PlanR w2 ob rg pg pk ⟨a, b, c, d, e, f, g, h, n, lo, s, lr, lp, lk⟩)) (HR : Hid (PlanR w2 ob' rg' pg' pk' ⟨a', b', c', d', e', f', g', h', n', lo', s', lr', lp', lk'⟩)) (Q0 : Hid ((decide ([a, b, c, d, e, f, g, h] = [a', b', c', d', e', f', g', h'])) = true)) (Q1 : Hid ((sameF n lo n' lo') = true)) (Q2 : Hid ((decide (s = s')) = true)) (Q3 : Hid ((decide (lr = lr')) = true)) (Q4 : Hid ((decide (lp = lp')) = false)) :
 Calls Tryz.prog 9 #[planV a b c d e f g h n ob s rg pg pk, planV a' b' c' d' e' f' g' h' n' ob' s' rg' pg' pk'] w fun x w' => x = .returned (.bool false) ∧ Below w.heap.size w w' := by
 have HBC := hide (belowD (Below.refl w2.heap.size w2)); have hq0 := eql_nums a b c d e f g h a' b' c' d' e' f' g' h'; rw [Q0.out] at hq0; have e2 : ((s : Int) == (s' : Int)) = true := by have q := Q2.out; rw [decide_eq_true_eq] at q; rw [beq_iff_eq, q]
 unfold planV; go_enter Tryz.func9, Tryz.ntmps9
 go_wp2; rw [HE.out]; refine wp_region_held_drew (S := fun w' => (PC w' (w.heap.size) (.int .i64 a) (.int .i64 b) (.int .i64 c) (.int .i64 d) (.int .i64 e) (.int .i64 f) (.int .i64 g) (.int .i64 h) (.int .i64 n) ob (.int .u64 (s : Int)) rg pg pk) ∧ (PC w' (w.heap.size + 1) (.int .i64 a') (.int .i64 b') (.int .i64 c') (.int .i64 d') (.int .i64 e') (.int .i64 f') (.int .i64 g') (.int .i64 h') (.int .i64 n') ob' (.int .u64 (s' : Int)) rg' pg' pk')) (by kernel_rfl) ?_ (fun hHeld => ?_)
 · exact (by exact HX.out.two HY.out HBC.out)
 refine tk 0 ?_; refine tk 2 ?_; refine r1 1 (fun K hK => ?_); go_simp; go_at_call 37; (with_reducible refine (numbersOf_any a b c d e f g h n ob s rg pg pk _).mono ?_); rintro x w4 ⟨rfl, hb⟩; have HBC := hide (bcall HBC.out hb); clear hb; (try go_simp); refine go_ hK (by exact HX.out.two HY.out HBC.out) (fun hHeld => ?_); refine r1 3 (fun K hK => ?_); go_simp; go_at_call 37; (with_reducible refine (numbersOf_any a' b' c' d' e' f' g' h' n' ob' s' rg' pg' pk' _).mono ?_); rintro x w4 ⟨rfl, hb⟩; have HBC := hide (bcall HBC.out hb); clear hb; (try go_simp); refine go_ hK (by exact HX.out.two HY.out HBC.out) (fun hHeld => ?_); refine tk 4 ?_; refine tk 5 ?_; refine tk 6 ?_; refine tk 7 ?_; refine tk 8 ?_; refine tk 9 ?_; refine r1 10 (fun K hK => ?_); go_simp; go_at_call 38; (with_reducible refine (Same_cHp n n' ob ob' lo lo' _ (HP.out.ob.below HBC.out) (HR.out.ob.below HBC.out) _ Q1.out).mono ?_); rintro x w4 ⟨rfl, hb⟩; have HBC := hide (bcall HBC.out hb); clear hb; (try go_simp); refine go_ hK (by exact HX.out.two HY.out HBC.out) (fun hHeld => ?_); refine tk 11 ?_; refine tk 12 ?_; refine tk 13 ?_; refine tk 14 ?_; refine tk 15 ?_; refine tk 16 ?_; refine tk 17 ?_; refine tk 18 ?_; refine tk 19 ?_; refine tk 20 ?_; refine tk 21 ?_; refine tk 22 ?_; refine tk 23 ?_; refine r1 24 (fun K hK => ?_); go_simp; go_at_call 39; (with_reducible refine (EqualFunc_rows rg rg' lr lr' _ (HP.out.rg.below HBC.out) (HR.out.rg.below HBC.out)).mono ?_); rintro x w4 ⟨rfl, hb⟩; rw [Q3.out]; have HBC := hide (bcall HBC.out hb); clear hb; (try go_simp); refine go_ hK (by exact HX.out.two HY.out HBC.out) (fun hHeld => ?_); refine tk 25 ?_; refine tk 26 ?_; refine tk 27 ?_; refine tk 28 ?_; refine tk 29 ?_; refine tk 30 ?_; refine r1 31 (fun K hK => ?_); go_simp; go_at_call 41; (with_reducible refine (EqualFunc_ops pg pg' lp lp' _ (HP.out.pg.below HBC.out) (HR.out.pg.below HBC.out)).mono ?_); rintro x w4 ⟨rfl, hb⟩; rw [Q4.out]; have HBC := hide (bcall HBC.out hb); clear hb; (try go_simp); refine go_ hK (by exact HX.out.two HY.out HBC.out) (fun hHeld => ?_); refine tk 32 ?_; refine tk 33 ?_; refine tu 34 ?_; refine tu 35 ?_; refine tu 36 ?_; refine tu 37 ?_; refine tu 38 ?_; refine tk 39 ?_; refine tk 40 ?_; refine wpAnyH_done (by kernel_rfl) ?_ _; go_wp2; go_ret
 exact ⟨rfl, bcall HB2.out HBC.out⟩
theorem pSame_5 (a b c d e f g h n : Int) (ob : Value) (s : Nat) (rg pg pk : Value) (lo lr : Rws) (lp : List (List Oq)) (lk : List PP) (a' b' c' d' e' f' g' h' n' : Int) (ob' : Value) (s' : Nat) (rg' pg' pk' : Value) (lo' lr' : Rws) (lp' : List (List Oq)) (lk' : List PP) (w w2 : World) (HE : Hid ((w.alloc (.cells #[.int .i64 a, .int .i64 b, .int .i64 c, .int .i64 d, .int .i64 e, .int .i64 f, .int .i64 g, .int .i64 h, .int .i64 n, ob, .int .u64 (s : Int), rg, pg, pk] 30)).alloc (.cells #[.int .i64 a', .int .i64 b', .int .i64 c', .int .i64 d', .int .i64 e', .int .i64 f', .int .i64 g', .int .i64 h', .int .i64 n', ob', .int .u64 (s' : Int), rg', pg', pk'] 30) = w2)) (HB2 : Hid (Below w.heap.size w w2))
 (HX : Hid (Bp 30 w2 w.heap.size a b c d e f g h n ob s rg pg pk)) (HY : Hid (Bp 30 w2 (w.heap.size + 1) a' b' c' d' e' f' g' h' n' ob' s' rg' pg' pk')) (HP : Hid (PlanR w2 ob rg pg pk ⟨a, b, c, d, e, f, g, h, n, lo, s, lr, lp, lk⟩)) (HR : Hid (PlanR w2 ob' rg' pg' pk' ⟨a', b', c', d', e', f', g', h', n', lo', s', lr', lp', lk'⟩)) (Q0 : Hid ((decide ([a, b, c, d, e, f, g, h] = [a', b', c', d', e', f', g', h'])) = true)) (Q1 : Hid ((sameF n lo n' lo') = true)) (Q2 : Hid ((decide (s = s')) = true)) (Q3 : Hid ((decide (lr = lr')) = true)) (Q4 : Hid ((decide (lp = lp')) = true)) (Q5 : Hid ((decide (lk = lk')) = false)) :
 Calls Tryz.prog 9 #[planV a b c d e f g h n ob s rg pg pk, planV a' b' c' d' e' f' g' h' n' ob' s' rg' pg' pk'] w fun x w' => x = .returned (.bool false) ∧ Below w.heap.size w w' := by
 have HBC := hide (belowD (Below.refl w2.heap.size w2)); have hq0 := eql_nums a b c d e f g h a' b' c' d' e' f' g' h'; rw [Q0.out] at hq0; have e2 : ((s : Int) == (s' : Int)) = true := by have q := Q2.out; rw [decide_eq_true_eq] at q; rw [beq_iff_eq, q]
 unfold planV; go_enter Tryz.func9, Tryz.ntmps9
 go_wp2; rw [HE.out]; refine wp_region_held_drew (S := fun w' => (PC w' (w.heap.size) (.int .i64 a) (.int .i64 b) (.int .i64 c) (.int .i64 d) (.int .i64 e) (.int .i64 f) (.int .i64 g) (.int .i64 h) (.int .i64 n) ob (.int .u64 (s : Int)) rg pg pk) ∧ (PC w' (w.heap.size + 1) (.int .i64 a') (.int .i64 b') (.int .i64 c') (.int .i64 d') (.int .i64 e') (.int .i64 f') (.int .i64 g') (.int .i64 h') (.int .i64 n') ob' (.int .u64 (s' : Int)) rg' pg' pk')) (by kernel_rfl) ?_ (fun hHeld => ?_)
 · exact (by exact HX.out.two HY.out HBC.out)
 refine tk 0 ?_; refine tk 2 ?_; refine r1 1 (fun K hK => ?_); go_simp; go_at_call 37; (with_reducible refine (numbersOf_any a b c d e f g h n ob s rg pg pk _).mono ?_); rintro x w4 ⟨rfl, hb⟩; have HBC := hide (bcall HBC.out hb); clear hb; (try go_simp); refine go_ hK (by exact HX.out.two HY.out HBC.out) (fun hHeld => ?_); refine r1 3 (fun K hK => ?_); go_simp; go_at_call 37; (with_reducible refine (numbersOf_any a' b' c' d' e' f' g' h' n' ob' s' rg' pg' pk' _).mono ?_); rintro x w4 ⟨rfl, hb⟩; have HBC := hide (bcall HBC.out hb); clear hb; (try go_simp); refine go_ hK (by exact HX.out.two HY.out HBC.out) (fun hHeld => ?_); refine tk 4 ?_; refine tk 5 ?_; refine tk 6 ?_; refine tk 7 ?_; refine tk 8 ?_; refine tk 9 ?_; refine r1 10 (fun K hK => ?_); go_simp; go_at_call 38; (with_reducible refine (Same_cHp n n' ob ob' lo lo' _ (HP.out.ob.below HBC.out) (HR.out.ob.below HBC.out) _ Q1.out).mono ?_); rintro x w4 ⟨rfl, hb⟩; have HBC := hide (bcall HBC.out hb); clear hb; (try go_simp); refine go_ hK (by exact HX.out.two HY.out HBC.out) (fun hHeld => ?_); refine tk 11 ?_; refine tk 12 ?_; refine tk 13 ?_; refine tk 14 ?_; refine tk 15 ?_; refine tk 16 ?_; refine tk 17 ?_; refine tk 18 ?_; refine tk 19 ?_; refine tk 20 ?_; refine tk 21 ?_; refine tk 22 ?_; refine tk 23 ?_; refine r1 24 (fun K hK => ?_); go_simp; go_at_call 39; (with_reducible refine (EqualFunc_rows rg rg' lr lr' _ (HP.out.rg.below HBC.out) (HR.out.rg.below HBC.out)).mono ?_); rintro x w4 ⟨rfl, hb⟩; rw [Q3.out]; have HBC := hide (bcall HBC.out hb); clear hb; (try go_simp); refine go_ hK (by exact HX.out.two HY.out HBC.out) (fun hHeld => ?_); refine tk 25 ?_; refine tk 26 ?_; refine tk 27 ?_; refine tk 28 ?_; refine tk 29 ?_; refine tk 30 ?_; refine r1 31 (fun K hK => ?_); go_simp; go_at_call 41; (with_reducible refine (EqualFunc_ops pg pg' lp lp' _ (HP.out.pg.below HBC.out) (HR.out.pg.below HBC.out)).mono ?_); rintro x w4 ⟨rfl, hb⟩; rw [Q4.out]; have HBC := hide (bcall HBC.out hb); clear hb; (try go_simp); refine go_ hK (by exact HX.out.two HY.out HBC.out) (fun hHeld => ?_); refine tk 32 ?_; refine tk 33 ?_; refine tk 34 ?_; refine tk 35 ?_; refine tk 36 ?_; refine tk 37 ?_; refine r1 38 (fun K hK => ?_); go_simp; go_at_call 43; (with_reducible refine (Equal_picks pk pk' lk lk' _ (HP.out.pk.below HBC.out) (HR.out.pk.below HBC.out)).mono ?_); rintro x w4 ⟨rfl, hb⟩; rw [Q5.out]; have HBC := hide (bcall HBC.out hb); clear hb; (try go_simp); refine go_ hK (by exact HX.out.two HY.out HBC.out) (fun hHeld => ?_); refine tk 39 ?_; refine tk 40 ?_; refine wpAnyH_done (by kernel_rfl) ?_ _; go_wp2; go_ret
 exact ⟨rfl, bcall HB2.out HBC.out⟩
theorem pSame_6 (a b c d e f g h n : Int) (ob : Value) (s : Nat) (rg pg pk : Value) (lo lr : Rws) (lp : List (List Oq)) (lk : List PP) (a' b' c' d' e' f' g' h' n' : Int) (ob' : Value) (s' : Nat) (rg' pg' pk' : Value) (lo' lr' : Rws) (lp' : List (List Oq)) (lk' : List PP) (w w2 : World) (HE : Hid ((w.alloc (.cells #[.int .i64 a, .int .i64 b, .int .i64 c, .int .i64 d, .int .i64 e, .int .i64 f, .int .i64 g, .int .i64 h, .int .i64 n, ob, .int .u64 (s : Int), rg, pg, pk] 30)).alloc (.cells #[.int .i64 a', .int .i64 b', .int .i64 c', .int .i64 d', .int .i64 e', .int .i64 f', .int .i64 g', .int .i64 h', .int .i64 n', ob', .int .u64 (s' : Int), rg', pg', pk'] 30) = w2)) (HB2 : Hid (Below w.heap.size w w2))
 (HX : Hid (Bp 30 w2 w.heap.size a b c d e f g h n ob s rg pg pk)) (HY : Hid (Bp 30 w2 (w.heap.size + 1) a' b' c' d' e' f' g' h' n' ob' s' rg' pg' pk')) (HP : Hid (PlanR w2 ob rg pg pk ⟨a, b, c, d, e, f, g, h, n, lo, s, lr, lp, lk⟩)) (HR : Hid (PlanR w2 ob' rg' pg' pk' ⟨a', b', c', d', e', f', g', h', n', lo', s', lr', lp', lk'⟩)) (Q0 : Hid ((decide ([a, b, c, d, e, f, g, h] = [a', b', c', d', e', f', g', h'])) = true)) (Q1 : Hid ((sameF n lo n' lo') = true)) (Q2 : Hid ((decide (s = s')) = true)) (Q3 : Hid ((decide (lr = lr')) = true)) (Q4 : Hid ((decide (lp = lp')) = true)) (Q5 : Hid ((decide (lk = lk')) = true)) :
 Calls Tryz.prog 9 #[planV a b c d e f g h n ob s rg pg pk, planV a' b' c' d' e' f' g' h' n' ob' s' rg' pg' pk'] w fun x w' => x = .returned (.bool true) ∧ Below w.heap.size w w' := by
 have HBC := hide (belowD (Below.refl w2.heap.size w2)); have hq0 := eql_nums a b c d e f g h a' b' c' d' e' f' g' h'; rw [Q0.out] at hq0; have e2 : ((s : Int) == (s' : Int)) = true := by have q := Q2.out; rw [decide_eq_true_eq] at q; rw [beq_iff_eq, q]
 unfold planV; go_enter Tryz.func9, Tryz.ntmps9
 go_wp2; rw [HE.out]; refine wp_region_held_drew (S := fun w' => (PC w' (w.heap.size) (.int .i64 a) (.int .i64 b) (.int .i64 c) (.int .i64 d) (.int .i64 e) (.int .i64 f) (.int .i64 g) (.int .i64 h) (.int .i64 n) ob (.int .u64 (s : Int)) rg pg pk) ∧ (PC w' (w.heap.size + 1) (.int .i64 a') (.int .i64 b') (.int .i64 c') (.int .i64 d') (.int .i64 e') (.int .i64 f') (.int .i64 g') (.int .i64 h') (.int .i64 n') ob' (.int .u64 (s' : Int)) rg' pg' pk')) (by kernel_rfl) ?_ (fun hHeld => ?_)
 · exact (by exact HX.out.two HY.out HBC.out)
 refine tk 0 ?_; refine tk 2 ?_; refine r1 1 (fun K hK => ?_); go_simp; go_at_call 37; (with_reducible refine (numbersOf_any a b c d e f g h n ob s rg pg pk _).mono ?_); rintro x w4 ⟨rfl, hb⟩; have HBC := hide (bcall HBC.out hb); clear hb; (try go_simp); refine go_ hK (by exact HX.out.two HY.out HBC.out) (fun hHeld => ?_); refine r1 3 (fun K hK => ?_); go_simp; go_at_call 37; (with_reducible refine (numbersOf_any a' b' c' d' e' f' g' h' n' ob' s' rg' pg' pk' _).mono ?_); rintro x w4 ⟨rfl, hb⟩; have HBC := hide (bcall HBC.out hb); clear hb; (try go_simp); refine go_ hK (by exact HX.out.two HY.out HBC.out) (fun hHeld => ?_); refine tk 4 ?_; refine tk 5 ?_; refine tk 6 ?_; refine tk 7 ?_; refine tk 8 ?_; refine tk 9 ?_; refine r1 10 (fun K hK => ?_); go_simp; go_at_call 38; (with_reducible refine (Same_cHp n n' ob ob' lo lo' _ (HP.out.ob.below HBC.out) (HR.out.ob.below HBC.out) _ Q1.out).mono ?_); rintro x w4 ⟨rfl, hb⟩; have HBC := hide (bcall HBC.out hb); clear hb; (try go_simp); refine go_ hK (by exact HX.out.two HY.out HBC.out) (fun hHeld => ?_); refine tk 11 ?_; refine tk 12 ?_; refine tk 13 ?_; refine tk 14 ?_; refine tk 15 ?_; refine tk 16 ?_; refine tk 17 ?_; refine tk 18 ?_; refine tk 19 ?_; refine tk 20 ?_; refine tk 21 ?_; refine tk 22 ?_; refine tk 23 ?_; refine r1 24 (fun K hK => ?_); go_simp; go_at_call 39; (with_reducible refine (EqualFunc_rows rg rg' lr lr' _ (HP.out.rg.below HBC.out) (HR.out.rg.below HBC.out)).mono ?_); rintro x w4 ⟨rfl, hb⟩; rw [Q3.out]; have HBC := hide (bcall HBC.out hb); clear hb; (try go_simp); refine go_ hK (by exact HX.out.two HY.out HBC.out) (fun hHeld => ?_); refine tk 25 ?_; refine tk 26 ?_; refine tk 27 ?_; refine tk 28 ?_; refine tk 29 ?_; refine tk 30 ?_; refine r1 31 (fun K hK => ?_); go_simp; go_at_call 41; (with_reducible refine (EqualFunc_ops pg pg' lp lp' _ (HP.out.pg.below HBC.out) (HR.out.pg.below HBC.out)).mono ?_); rintro x w4 ⟨rfl, hb⟩; rw [Q4.out]; have HBC := hide (bcall HBC.out hb); clear hb; (try go_simp); refine go_ hK (by exact HX.out.two HY.out HBC.out) (fun hHeld => ?_); refine tk 32 ?_; refine tk 33 ?_; refine tk 34 ?_; refine tk 35 ?_; refine tk 36 ?_; refine tk 37 ?_; refine r1 38 (fun K hK => ?_); go_simp; go_at_call 43; (with_reducible refine (Equal_picks pk pk' lk lk' _ (HP.out.pk.below HBC.out) (HR.out.pk.below HBC.out)).mono ?_); rintro x w4 ⟨rfl, hb⟩; rw [Q5.out]; have HBC := hide (bcall HBC.out hb); clear hb; (try go_simp); refine go_ hK (by exact HX.out.two HY.out HBC.out) (fun hHeld => ?_); refine tk 39 ?_; refine tk 40 ?_; refine wpAnyH_done (by kernel_rfl) ?_ _; go_wp2; go_ret
 exact ⟨rfl, bcall HB2.out HBC.out⟩
theorem pSame_parts (a b c d e f g h n : Int) (s : Nat) (lo lr : Rws) (lp : List (List Oq)) (lk : List PP) (a' b' c' d' e' f' g' h' n' : Int) (s' : Nat) (lo' lr' : Rws) (lp' : List (List Oq)) (lk' : List PP) :
 decide ((⟨a, b, c, d, e, f, g, h, n, lo, s, lr, lp, lk⟩ : Pq) = ⟨a', b', c', d', e', f', g', h', n', lo', s', lr', lp', lk'⟩) = (decide ([a, b, c, d, e, f, g, h] = [a', b', c', d', e', f', g', h']) && (sameF n lo n' lo' && (decide (s = s') && (decide (lr = lr') && (decide (lp = lp') && (decide (lk = lk'))))))) := by
 rw [Bool.eq_iff_iff]; simp only [decide_eq_true_eq, Bool.and_eq_true, sameF, Pq.mk.injEq, List.cons.injEq, and_true]; constructor
 · rintro ⟨h1, h2, h3, h4, h5, h6, h7, h8, h9, h10, h11, h12, h13, h14⟩; exact ⟨⟨h1, h2, h3, h4, h5, h6, h7, h8⟩, ⟨h9, h10⟩, h11, h12, h13, h14⟩
 · rintro ⟨⟨h1, h2, h3, h4, h5, h6, h7, h8⟩, ⟨h9, h10⟩, h11, h12, h13, h14⟩; exact ⟨h1, h2, h3, h4, h5, h6, h7, h8, h9, h10, h11, h12, h13, h14⟩
theorem pSame_any (a b c d e f g h n : Int) (ob : Value) (s : Nat) (rg pg pk : Value) (p : Pq) (a' b' c' d' e' f' g' h' n' : Int) (ob' : Value) (s' : Nat) (rg' pg' pk' : Value) (q : Pq) (w : World) (hp : PlanR w ob rg pg pk p) (hq : PlanR w ob' rg' pg' pk' q) (ep : p = ⟨a, b, c, d, e, f, g, h, n, p.ob, s, p.rg, p.pg, p.pk⟩) (eq : q = ⟨a', b', c', d', e', f', g', h', n', q.ob, s', q.rg, q.pg, q.pk⟩) (r : Bool) (hr : decide (p = q) = r) :
 Calls Tryz.prog 9 #[planV a b c d e f g h n ob s rg pg pk, planV a' b' c' d' e' f' g' h' n' ob' s' rg' pg' pk'] w fun x w' => x = .returned (.bool r) ∧ Below w.heap.size w w' := by
 obtain ⟨a0, b0, c0, d0, e0, f0, g0, h0, n0, lo, s0, lr, lp, lk⟩ := p; obtain ⟨a1, b1, c1, d1, e1, f1, g1, h1, n1, lo', s1, lr', lp', lk'⟩ := q; rw [Pq.mk.injEq] at ep eq; obtain ⟨p1, p2, p3, p4, p5, p6, p7, p8, p9, -, p10, -⟩ := ep; obtain ⟨q1, q2, q3, q4, q5, q6, q7, q8, q9, -, q10, -⟩ := eq; subst p1 p2 p3 p4 p5 p6 p7 p8 p9 p10 q1 q2 q3 q4 q5 q6 q7 q8 q9 q10; rw [pSame_parts] at hr; obtain ⟨w1, E1, hb1, hs1, X⟩ := bp_new w a0 b0 c0 d0 e0 f0 g0 h0 n0 ob s0 rg pg pk 30; obtain ⟨w2, E2, hb2, hs2, Y⟩ := bp_new w1 a1 b1 c1 d1 e1 f1 g1 h1 n1 ob' s1 rg' pg' pk' 30; rw [hs1] at Y; rw [← E1] at E2; have HE := hide E2; have hb12 := bcall hb1 hb2; have HB2 := hide hb12; have HX := hide (X.below hb2); have HY := hide Y; clear E1; have HP := hide (hp.below hb12); have HR := hide (hq.below hb12); cases k0 : decide ([a0, b0, c0, d0, e0, f0, g0, h0] = [a1, b1, c1, d1, e1, f1, g1, h1])
 · obtain rfl : r = false := by rw [← hr, k0]; rfl
   exact pSame_0 _ _ _ _ _ _ _ _ _ _ _ _ _ _ _ _ _ _ _ _ _ _ _ _ _ _ _ _ _ _ _ _ _ _ _ _ w w2 HE HB2 HX HY HP HR (hide k0)
 cases k1 : sameF n0 lo n1 lo'
 · obtain rfl : r = false := by rw [← hr, k0, k1]; rfl
   exact pSame_1 _ _ _ _ _ _ _ _ _ _ _ _ _ _ _ _ _ _ _ _ _ _ _ _ _ _ _ _ _ _ _ _ _ _ _ _ w w2 HE HB2 HX HY HP HR (hide k0) (hide k1)
 cases k2 : decide (s0 = s1)
 · obtain rfl : r = false := by rw [← hr, k0, k1, k2]; rfl
   exact pSame_2 _ _ _ _ _ _ _ _ _ _ _ _ _ _ _ _ _ _ _ _ _ _ _ _ _ _ _ _ _ _ _ _ _ _ _ _ w w2 HE HB2 HX HY HP HR (hide k0) (hide k1) (hide k2)
 cases k3 : decide (lr = lr')
 · obtain rfl : r = false := by rw [← hr, k0, k1, k2, k3]; rfl
   exact pSame_3 _ _ _ _ _ _ _ _ _ _ _ _ _ _ _ _ _ _ _ _ _ _ _ _ _ _ _ _ _ _ _ _ _ _ _ _ w w2 HE HB2 HX HY HP HR (hide k0) (hide k1) (hide k2) (hide k3)
 cases k4 : decide (lp = lp')
 · obtain rfl : r = false := by rw [← hr, k0, k1, k2, k3, k4]; rfl
   exact pSame_4 _ _ _ _ _ _ _ _ _ _ _ _ _ _ _ _ _ _ _ _ _ _ _ _ _ _ _ _ _ _ _ _ _ _ _ _ w w2 HE HB2 HX HY HP HR (hide k0) (hide k1) (hide k2) (hide k3) (hide k4)
 cases k5 : decide (lk = lk')
 · obtain rfl : r = false := by rw [← hr, k0, k1, k2, k3, k4, k5]; rfl
   exact pSame_5 _ _ _ _ _ _ _ _ _ _ _ _ _ _ _ _ _ _ _ _ _ _ _ _ _ _ _ _ _ _ _ _ _ _ _ _ w w2 HE HB2 HX HY HP HR (hide k0) (hide k1) (hide k2) (hide k3) (hide k4) (hide k5)
 obtain rfl : r = true := by rw [← hr, k0, k1, k2, k3, k4, k5]; rfl
 exact pSame_6 _ _ _ _ _ _ _ _ _ _ _ _ _ _ _ _ _ _ _ _ _ _ _ _ _ _ _ _ _ _ _ _ _ _ _ _ w w2 HE HB2 HX HY HP HR (hide k0) (hide k1) (hide k2) (hide k3) (hide k4) (hide k5)
