import Derived.Lib.ItoaMem
import Derived.Test.YtjnokhaojpijhaaGreatDoorPas
import Derived.Test.YtjnokhaojpijhaaGreatDoorPbc
import Derived.Test.YtjnokhaojpijhaaGreatDoorPaz
import Derived.Test.YtjnokhaojpijhaaGreatDoorPau
import Derived.Test.YtjnokhaojpijhaaGreatDoorPan
import Derived.Test.YtjnokhaojpijhaaGreatDoorPaw
import Derived.Test.YtjnokhaojpijhaaGreatDoorPba
import Derived.Test.YtjnokhaojpijhaaGreatDoorPae
import Derived.Test.YtjnokhaojpijhaaGreatDoorPac
/- Layer plan: how a plan's text is put together: plain facts, and texts in slices. -/
namespace Go.Proofs.YtjnokhaojpijhaaGreatDoor
open Go.RowKit Go.Joins Go.Shelf Go.Proofs
def tsC (t : B8) : List Value := [.string ⟨t.toArray⟩]
theorem tsC_len (p : B8) : (tsC p).length = 1 := rfl
abbrev Txs (w : World) (v : Value) (l : List B8) : Prop := Sl tsC 1 w v l
theorem joinC_inter (c : UInt8) : ∀ l : List B8, Go.Lib.join l [c] = joinC c l
  | [] => rfl
  | [p] => by simp [Go.Lib.join, joinC, List.intercalate]
  | p :: q :: l => by
    have := joinC_inter c (q :: l)
    unfold Go.Lib.join List.intercalate at this ⊢
    rw [joinC, ← this]
    simp [List.intersperse]
theorem joinC_len (c : UInt8) : ∀ l : List B8, (joinC c l).length ≤ (l.map List.length).sum + l.length
  | [] => by simp [joinC]
  | [p] => by simp [joinC]
  | p :: q :: l => by
    have := joinC_len c (q :: l)
    simp only [joinC, List.length_append, List.length_cons, List.map_cons, List.sum_cons] at this ⊢
    omega
theorem numsT_len (c : UInt8) (l : List Int) (h : ∀ x ∈ l, 0 ≤ x ∧ x ≤ 1000000) : (numsT c l).length ≤ 8 * l.length := by
  have h1 := joinC_len c (l.map dec)
  have h2 : ∀ l : List Int, (∀ x ∈ l, 0 ≤ x ∧ x ≤ 1000000) → ((l.map dec).map List.length).sum ≤ 7 * l.length := by
    intro l
    induction l with
    | nil => intro _; simp
    | cons a l ih =>
      intro h
      have e := ih fun x hx => h x (List.mem_cons_of_mem _ hx)
      have ha := h a (by simp)
      have hd : (dec a).length ≤ 7 := by
        unfold dec
        rw [Go.Lib.decDigits_length]
        have : ¬ 8 ≤ Go.Lib.nDigits a.toNat := by
          intro h8
          have := Go.Lib.decDigits_length a.toNat
          have h9 : (Go.Lib.decDigits a.toNat).length ≤ 7 := Go.Proofs.YtjnokhaojpijhaaGreatDoor.dec_lenPl 7 a.toNat (by omega) (by decide)
          omega
        omega
      simp only [List.map_cons, List.sum_cons, List.length_cons]
      omega
  have h3 := h2 l h
  rw [List.length_map] at h1
  unfold numsT
  omega
theorem fedT_append (a b : List B8) : fedT (a ++ b) = fedT a ++ fedT b := by unfold fedT; rw [List.flatMap_append]
theorem fedT_one (a : B8) : fedT [a] = a ++ [10] := by simp [fedT]
theorem fedT_len (N : Nat) : ∀ l : List B8, (∀ x ∈ l, x.length ≤ N) → (fedT l).length ≤ l.length * (N + 1)
  | [], _ => by simp [fedT]
  | a :: l, h => by
    have e := fedT_len N l fun x hx => h x (List.mem_cons_of_mem _ hx)
    have ha := h a (by simp)
    show (a ++ [10] ++ fedT l).length ≤ _
    rw [List.length_append, List.length_append, List.length_singleton, List.length_cons, Nat.add_mul, Nat.one_mul]
    omega
theorem hT_small (n : Int) (ls : Rws) : (hTextF n ls).length ≤ 1000 := by
  unfold hTextF
  split
  · rename_i h
    have hl := right_len h
    have hr := right_rows h
    have h1 := rows_len ls (fun l hl' => ⟨by have := (hr l hl').1; omega, fun v hv => by have := (hr l hl').2 v hv; omega⟩)
    have h2 := Go.Proofs.YtjnokhaojpijhaaGreatDoor.dec_lenHp (v := n) (by omega) (by omega)
    rw [List.length_append]; omega
  · simp
theorem st_small (s : Nat) : (textF s).length ≤ 182 := text_lenSt s
theorem FormatInt_c (x : Int) (w : World) (h0 : 0 ≤ x) (h1 : x ≤ 9223372036854775807) (hE : EnvP w) :
    Calls Tryz.prog 151 #[.int .i64 x, .int .i64 10] w fun e w' => e = .returned (.string ⟨(dec x).toArray⟩) ∧ Below w.heap.size w w' := by
  refine (Tryz.strconv_FormatInt_10 x (by omega) h1 w hE.h.pow).mono ?_
  rintro e w' ⟨rfl, k, os, rfl⟩
  refine ⟨?_, grow_below _ _ _⟩
  unfold Go.Lib.itoa dec
  rw [if_neg (by omega)]
theorem Join_c (c : UInt8) (ts : List B8) (v : Value) (w : World) (h : Txs w v ts) (hn : ts.length ≤ 140737488355328) (hl : (joinC c ts).length ≤ 140737488355328) :
    Calls Tryz.prog 150 #[v, .string ⟨#[c]⟩] w fun e w' => e = .returned (.string ⟨(joinC c ts).toArray⟩) ∧ Below w.heap.size w w' := by
  obtain ⟨A, cp, rfl, h1, h2, h3⟩ := h
  by_cases h0 : ts.length = 0
  · rw [h0]
    refine (Tryz.strings_Join_none A cp ⟨#[c]⟩ w).mono ?_
    rintro e w' ⟨rfl, hw⟩
    obtain rfl := hw.symm
    exact ⟨by rw [List.eq_nil_of_length_eq_zero h0]; rfl, Below.refl _ _⟩
  · obtain ⟨b, off, rfl, hb, hc⟩ := h3 (by omega)
    have hm : ((ts.map fun t : B8 => (⟨t.toArray⟩ : ByteArray)).map (·.data.toList)) = ts := by
      rw [List.map_map]
      have : ((fun x : ByteArray => x.data.toList) ∘ fun t : B8 => (⟨t.toArray⟩ : ByteArray)) = id := by funext t; simp
      rw [this, List.map_id]
    have hj : Go.Lib.join ((ts.map fun t : B8 => (⟨t.toArray⟩ : ByteArray)).map (·.data.toList)) (⟨#[c]⟩ : ByteArray).data.toList = joinC c ts := by
      rw [hm]; exact joinC_inter c ts
    have hlen : (ts.map fun t : B8 => (⟨t.toArray⟩ : ByteArray)).length = ts.length := List.length_map ..
    have := Tryz.strings_Join b off cp (ts.map fun t : B8 => (⟨t.toArray⟩ : ByteArray)) ⟨#[c]⟩ w (by
      intro j x hx
      rw [List.getElem?_map] at hx
      obtain ⟨t, ht, rfl⟩ := Option.map_eq_some_iff.1 hx
      have := hc j t ht 0 (.string ⟨t.toArray⟩) rfl
      simpa using this) hb (by rw [hlen]; exact hn) (by rw [hlen]; exact h1) (by rw [hj]; exact hl)
    rw [hlen, hj] at this
    exact this
/-- a slice written out -/
theorem txs_two (w : World) (X Y : ByteArray) (t : TypeId) : Txs (w.alloc (.cells #[.string X, .string Y] t)) (.slice (some ⟨w.heap.size, 0, none⟩) 2 2) [X.data.toList, Y.data.toList] := by
  refine ⟨_, 2, rfl, by simp, by simp [maxLen], fun _ => ⟨w.heap.size, 0, rfl, by simp, ?_⟩⟩
  intro i p hp j u hu
  have hcell := fun k => cell_of_block (heap_alloc_new w (.cells #[.string X, .string Y] t)) k
  rcases j with _ | j
  · rcases i with _ | _ | i
    · obtain rfl : X.data.toList = p := by simpa using hp
      have hu := Option.some.inj (show some (Value.string ⟨X.data.toList.toArray⟩) = some u from hu)
      subst hu
      rw [show (⟨X.data.toList.toArray⟩ : ByteArray) = X by simp]
      have := hcell 0
      simpa only [List.getElem?_toArray, List.getElem?_cons_zero, List.getElem?_cons_succ] using this
    · obtain rfl : Y.data.toList = p := by simpa using hp
      have hu := Option.some.inj (show some (Value.string ⟨Y.data.toList.toArray⟩) = some u from hu)
      subst hu
      rw [show (⟨Y.data.toList.toArray⟩ : ByteArray) = Y by simp]
      have := hcell 1
      simpa only [List.getElem?_toArray, List.getElem?_cons_zero, List.getElem?_cons_succ] using this
    · simp at hp
  · simp [tsC] at hu
theorem txs_three (w : World) (X Y Z : ByteArray) (t : TypeId) : Txs (w.alloc (.cells #[.string X, .string Y, .string Z] t)) (.slice (some ⟨w.heap.size, 0, none⟩) 3 3) [X.data.toList, Y.data.toList, Z.data.toList] := by
  refine ⟨_, 3, rfl, by simp, by simp [maxLen], fun _ => ⟨w.heap.size, 0, rfl, by simp, ?_⟩⟩
  intro i p hp j u hu
  have hcell := fun k => cell_of_block (heap_alloc_new w (.cells #[.string X, .string Y, .string Z] t)) k
  rcases j with _ | j
  · rcases i with _ | _ | _ | i
    · obtain rfl : X.data.toList = p := by simpa using hp
      have hu := Option.some.inj (show some (Value.string ⟨X.data.toList.toArray⟩) = some u from hu)
      subst hu
      rw [show (⟨X.data.toList.toArray⟩ : ByteArray) = X by simp]
      have := hcell 0
      simpa only [List.getElem?_toArray, List.getElem?_cons_zero, List.getElem?_cons_succ] using this
    · obtain rfl : Y.data.toList = p := by simpa using hp
      have hu := Option.some.inj (show some (Value.string ⟨Y.data.toList.toArray⟩) = some u from hu)
      subst hu
      rw [show (⟨Y.data.toList.toArray⟩ : ByteArray) = Y by simp]
      have := hcell 1
      simpa only [List.getElem?_toArray, List.getElem?_cons_zero, List.getElem?_cons_succ] using this
    · obtain rfl : Z.data.toList = p := by simpa using hp
      have hu := Option.some.inj (show some (Value.string ⟨Z.data.toList.toArray⟩) = some u from hu)
      subst hu
      rw [show (⟨Z.data.toList.toArray⟩ : ByteArray) = Z by simp]
      have := hcell 2
      simpa only [List.getElem?_toArray, List.getElem?_cons_zero, List.getElem?_cons_succ] using this
    · simp at hp
  · simp [tsC] at hu
set_option maxRecDepth 100000 in
set_option maxHeartbeats 2000000 in
theorem wLine (ts : List B8) (v : Value) (w : World) (h : Txs w v ts) (hn : ts.length ≤ 140737488355328) (hl : (joinC 32 ts).length ≤ 140737488355328) :
    Calls Tryz.prog 107 #[v] w fun e w' => e = .returned (.string ⟨(joinC 32 ts ++ [10]).toArray⟩) ∧ Below w.heap.size w w' := by
  have HH := hide h
  have HN := hide hn
  have HL := hide hl
  have HC := hide (ba_append (joinC 32 ts) [10])
  have hs : ¬ 9223372036854775807 < List.length (joinC 32 ts) + 1 := by omega
  obtain ⟨A, c, rfl, -⟩ := h
  clear hn hl
  go_enter Tryz.func107, Tryz.ntmps107
  go_wp2_with fail
  (with_reducible refine (Join_c 32 ts _ _ HH.out HN.out HL.out).mono ?_)
  rintro e w2 ⟨rfl, hb2⟩
  go_wp2
  go_ret
  exact ⟨cret HC.out, hb2⟩
/-- a line of two words, of three -/
theorem wLine2 (X Y : ByteArray) (w : World) (hl : X.data.toList.length + Y.data.toList.length ≤ 100000000) :
    Calls Tryz.prog 107 #[.slice (some ⟨w.heap.size, 0, none⟩) 2 2] (w.alloc (.cells #[.string X, .string Y] 9)) fun e w' => e = .returned (.string ⟨(lineT X.data.toList Y.data.toList ++ [10]).toArray⟩) ∧ Below w.heap.size w w' := by
  refine (wLine [X.data.toList, Y.data.toList] _ _ (txs_two w X Y _) (by simp) (show (X.data.toList ++ 32 :: Y.data.toList).length ≤ _ by rw [List.length_append, List.length_cons]; omega)).mono ?_
  rintro e w' ⟨rfl, hb⟩
  exact ⟨rfl, ((Below.refl _ w).alloc (Nat.le_refl _) _).trans (hb.mono (by simp))⟩
theorem wLine3 (X Y Z : ByteArray) (w : World) (hl : X.data.toList.length + Y.data.toList.length + Z.data.toList.length ≤ 100000000) :
    Calls Tryz.prog 107 #[.slice (some ⟨w.heap.size, 0, none⟩) 3 3] (w.alloc (.cells #[.string X, .string Y, .string Z] 9)) fun e w' => e = .returned (.string ⟨(lineT X.data.toList (Y.data.toList ++ 32 :: Z.data.toList) ++ [10]).toArray⟩) ∧ Below w.heap.size w w' := by
  refine (wLine [X.data.toList, Y.data.toList, Z.data.toList] _ _ (txs_three w X Y Z _) (by simp) (show (X.data.toList ++ 32 :: (Y.data.toList ++ 32 :: Z.data.toList)).length ≤ _ by rw [List.length_append, List.length_cons, List.length_append, List.length_cons]; omega)).mono ?_
  rintro e w' ⟨rfl, hb⟩
  exact ⟨rfl, ((Below.refl _ w).alloc (Nat.le_refl _) _).trans (hb.mono (by simp))⟩
theorem infoStrPl : (Tryz.prog.info? 9).map (fun i => (i.zero, i.size, i.bytes)) = some (some (.string ⟨#[]⟩), 1, 16) := by kernel_rfl
set_option maxRecDepth 100000 in
set_option maxHeartbeats 2000000 in
theorem Digits_int (c : UInt8) (v : Value) (l : List Int) (w : World) (h : Ints w v l) (hr : ∀ x ∈ l, 0 ≤ x ∧ x ≤ 1000000) (hlen : l.length ≤ 1000000) (hE : EnvP w) :
    Calls Tryz.prog 111 #[.string ⟨#[c]⟩, v] w fun e w' => e = .returned (.string ⟨(numsT c l).toArray⟩) ∧ Below w.heap.size w w' := by
  obtain ⟨i0, hi, hz0, hz1, hz2⟩ := info_parts infoStrPl
  obtain ⟨A, cp, rfl, h1, h2, -⟩ := id h
  unfold maxLen at h2
  have HI := hide h
  have HR := hide hr
  have HE := hide hE
  have HJ := hide (show (joinC c (l.map dec)).length ≤ 140737488355328 by have := numsT_len c l hr; unfold numsT at this; omega)
  clear h hr hE
  go_enter Tryz.func111, Tryz.ntmps111
  go_wp2
  go_loopw [5, 10] (fun r i wr => ∃ k : Nat, k ≤ l.length ∧ i = .int .i64 k ∧ wr.ownsRow w.heap.size 9 1 r k (((l.take k).map dec).flatMap tsC) ∧ Below w.heap.size w wr) (fun _ i _ => l.length - (Go.RowKit.intOf i).toNat)
  case atStart => exact ⟨0, Nat.zero_le _, rfl, World.ownsRow_nil _ _ _ _, Below.refl _ _⟩
  case round =>
    obtain ⟨k, hk, rfl, hown, hb⟩ := hrel
    by_cases hlt : k < l.length
    · obtain ⟨b, off, rfl, -, c0⟩ := ints_at (HI.out.below hb) hlt
      obtain ⟨hx0, hx1⟩ := HR.out l[k] (List.getElem_mem hlt)
      have HS := hide (show ((l.take (k + 1)).map dec).flatMap tsC = ((l.take k).map dec).flatMap tsC ++ [.string ⟨(dec l[k]).toArray⟩] by
        rw [List.take_succ_eq_append_getElem hlt, List.map_append, List.flatMap_append]; rfl)
      generalize l[k] = x at *
      obtain ⟨Ar, cr, rfl, hcr1, hcr2⟩ := own_form hown
      have HO := hide hown
      have HB := hide hb
      have HX0 := hide hx0
      have HX1 := hide hx1
      clear hown hb hx0 hx1
      go_wp2_with fail
      (with_reducible refine (FormatInt_c x _ HX0.out (by have := HX1.out; omega) (HE.out.below HB.out)).mono ?_)
      rintro e w2 ⟨rfl, hb2⟩
      have hown := HO.out.kept (grown_of_below hb2 none) (by cases (Value.slice Ar k cr).ownBlock <;> simp)
      have hb3 := bcall HB.out hb2
      have hwa := hb3.size
      clear hb2
      go_wp2_with (at_builtin; refine wpList_append_own _ rfl _ _ 68 rfl w.heap.size 9 i0 (.string ⟨#[]⟩) 1 16 Tryz.underlying68 hi hz0 hz1 hz2 rfl (by decide) _ _ _ rfl (hown.alloc _) ⟨_, 0, none⟩ 1 1 [.string ⟨(dec x).toArray⟩] rfl rfl (row_at _ _ _ (by simp)) (by simp [Value.oneCell']) (by simp only [maxLen]; omega) (by omega) (by simp; omega) ?_; intro v' w1 hown' hgrow _)
      go_roundw
      case rel => exact ⟨k + 1, by omega, by go_num, by rw [HS.out]; exact hown', (hb3.alloc hwa _).grown hgrow (by simp; omega) (own_ge hown)⟩
      case measure => simp [Go.RowKit.intOf]; omega
    · obtain rfl : k = l.length := by omega
      rw [List.take_length] at hown
      have HT := hide (Sl.of_own (enc := tsC) (l := l.map dec) tsC_len (by rw [List.length_map]; exact hown))
      clear hown
      go_wp2_with fail
      (with_reducible refine (Join_c c (l.map dec) _ _ HT.out (by rw [List.length_map]; omega) HJ.out).mono ?_)
      rintro e w2 ⟨rfl, hb2⟩
      go_wp2
      go_ret
      exact ⟨rfl, bcall hb hb2⟩
set_option maxRecDepth 100000 in
set_option maxHeartbeats 2000000 in
theorem Digits_int64 (c : UInt8) (v : Value) (l : List Int) (w : World) (h : Ints w v l) (hr : ∀ x ∈ l, 0 ≤ x ∧ x ≤ 1000000) (hlen : l.length ≤ 1000000) (hE : EnvP w) :
    Calls Tryz.prog 108 #[.string ⟨#[c]⟩, v] w fun e w' => e = .returned (.string ⟨(numsT c l).toArray⟩) ∧ Below w.heap.size w w' := by
  obtain ⟨i0, hi, hz0, hz1, hz2⟩ := info_parts infoStrPl
  obtain ⟨A, cp, rfl, h1, h2, -⟩ := id h
  unfold maxLen at h2
  have HI := hide h
  have HR := hide hr
  have HE := hide hE
  have HJ := hide (show (joinC c (l.map dec)).length ≤ 140737488355328 by have := numsT_len c l hr; unfold numsT at this; omega)
  clear h hr hE
  go_enter Tryz.func108, Tryz.ntmps108
  go_wp2
  go_loopw [5, 10] (fun r i wr => ∃ k : Nat, k ≤ l.length ∧ i = .int .i64 k ∧ wr.ownsRow w.heap.size 9 1 r k (((l.take k).map dec).flatMap tsC) ∧ Below w.heap.size w wr) (fun _ i _ => l.length - (Go.RowKit.intOf i).toNat)
  case atStart => exact ⟨0, Nat.zero_le _, rfl, World.ownsRow_nil _ _ _ _, Below.refl _ _⟩
  case round =>
    obtain ⟨k, hk, rfl, hown, hb⟩ := hrel
    by_cases hlt : k < l.length
    · obtain ⟨b, off, rfl, -, c0⟩ := ints_at (HI.out.below hb) hlt
      obtain ⟨hx0, hx1⟩ := HR.out l[k] (List.getElem_mem hlt)
      have HS := hide (show ((l.take (k + 1)).map dec).flatMap tsC = ((l.take k).map dec).flatMap tsC ++ [.string ⟨(dec l[k]).toArray⟩] by
        rw [List.take_succ_eq_append_getElem hlt, List.map_append, List.flatMap_append]; rfl)
      generalize l[k] = x at *
      obtain ⟨Ar, cr, rfl, hcr1, hcr2⟩ := own_form hown
      have HO := hide hown
      have HB := hide hb
      have HX0 := hide hx0
      have HX1 := hide hx1
      clear hown hb hx0 hx1
      go_wp2_with fail
      (with_reducible refine (FormatInt_c x _ HX0.out (by have := HX1.out; omega) (HE.out.below HB.out)).mono ?_)
      rintro e w2 ⟨rfl, hb2⟩
      have hown := HO.out.kept (grown_of_below hb2 none) (by cases (Value.slice Ar k cr).ownBlock <;> simp)
      have hb3 := bcall HB.out hb2
      have hwa := hb3.size
      clear hb2
      go_wp2_with (at_builtin; refine wpList_append_own _ rfl _ _ 68 rfl w.heap.size 9 i0 (.string ⟨#[]⟩) 1 16 Tryz.underlying68 hi hz0 hz1 hz2 rfl (by decide) _ _ _ rfl (hown.alloc _) ⟨_, 0, none⟩ 1 1 [.string ⟨(dec x).toArray⟩] rfl rfl (row_at _ _ _ (by simp)) (by simp [Value.oneCell']) (by simp only [maxLen]; omega) (by omega) (by simp; omega) ?_; intro v' w1 hown' hgrow _)
      go_roundw
      case rel => exact ⟨k + 1, by omega, by go_num, by rw [HS.out]; exact hown', (hb3.alloc hwa _).grown hgrow (by simp; omega) (own_ge hown)⟩
      case measure => simp [Go.RowKit.intOf]; omega
    · obtain rfl : k = l.length := by omega
      rw [List.take_length] at hown
      have HT := hide (Sl.of_own (enc := tsC) (l := l.map dec) tsC_len (by rw [List.length_map]; exact hown))
      clear hown
      go_wp2_with fail
      (with_reducible refine (Join_c c (l.map dec) _ _ HT.out (by rw [List.length_map]; omega) HJ.out).mono ?_)
      rintro e w2 ⟨rfl, hb2⟩
      go_wp2
      go_ret
      exact ⟨rfl, bcall hb hb2⟩
end Go.Proofs.YtjnokhaojpijhaaGreatDoor
/- Layer plan: slices of ops, of picks and of rows of ops compared; the numbers of a plan as an array. Written by tools/genplanr6.py. -/
namespace Go.Proofs.YtjnokhaojpijhaaGreatDoor
open Go.RowKit Go.Joins
set_option maxRecDepth 100000 in
set_option maxHeartbeats 2000000 in
theorem Equal_picks (va vb : Value) (a b : List PP) (w : World) (ha : Picks w va a) (hb : Picks w vb b) :
    Calls Tryz.prog 55 #[va, vb] w fun e w' => e = .returned (.bool (decide (a = b))) ∧ Below w.heap.size w w' := by
  have ha' := ha
  have hb' := hb
  obtain ⟨A, c, rfl, h1, h2, -⟩ := ha'
  obtain ⟨B, d, rfl, h3, h4, -⟩ := hb'
  unfold maxLen at h2 h4
  have HA := hide ha
  have HB := hide hb
  clear ha hb
  by_cases hn : a.length = b.length
  · have q : (((a.length : Int)) != ((b.length : Int))) = false := by rw [bne_eq_false_iff_eq]; omega
    have HN := hide hn
    clear hn
    go_enter Tryz.func55, Tryz.ntmps55
    go_wp2
    go_loopw [13] (fun i wr => ∃ k : Nat, k ≤ a.length ∧ i = .int .i64 k ∧ Below w.heap.size w wr ∧ Hid (a.take k = b.take k)) (fun i _ => a.length - (Go.RowKit.intOf i).toNat)
    case atStart => exact ⟨0, Nat.zero_le _, rfl, Below.refl _ _, hide (by simp)⟩
    case round =>
      obtain ⟨k, hk, rfl, hbw, HE⟩ := hrel
      by_cases hlt : k < a.length
      · have hlb : k < b.length := by have := HN.out; omega
        obtain ⟨b1, o1, rfl, _, c0, c1⟩ := picks_at (HA.out.below hbw) hlt
        obtain ⟨b2, o2, rfl, _, c2, c3⟩ := picks_at (HB.out.below hbw) hlb
        obtain ⟨D, hD, hnp⟩ : ∃ D, D = decide (a[k] = b[k]) ∧ ∀ w, (binOp .neq 108 (.agg #[.int .i64 (a[k]).1, .int .i64 (a[k]).2]) (.agg #[.int .i64 (b[k]).1, .int .i64 (b[k]).2])).run Tryz.prog w = .ok (.bool (!D)) w :=
          ⟨_, rfl, fun w => by
            rw [neq_pick]
            have : ((a[k]).1 == (b[k]).1 && (a[k]).2 == (b[k]).2) = decide (a[k] = b[k]) := by
              rw [Bool.eq_iff_iff, Bool.and_eq_true, beq_iff_eq, beq_iff_eq, decide_eq_true_eq, Prod.ext_iff]
            rw [this]⟩
        by_cases he : a[k] = b[k]
        · have e1 : D = true := hD.trans (decide_eq_true he)
          rw [e1] at hnp
          have HE' := hide (show a.take (k + 1) = b.take (k + 1) by rw [List.take_succ_eq_append_getElem hlt, List.take_succ_eq_append_getElem hlb, HE.out, he])
          clear e1 he hD
          go_wp2
          go_quiet (fail)
          go_wp2
          go_roundw
          case rel => exact ⟨k + 1, by omega, by go_num, bdrewN hbw _, HE'⟩
          case measure => simp [Go.RowKit.intOf]; omega
        · have e1 : D = false := hD.trans (decide_eq_false he)
          rw [e1] at hnp
          have HF := hide (show decide (a = b) = false by
            simp only [decide_eq_false_iff_not]
            intro h
            apply he
            simp [h])
          clear e1 he hD
          go_wp2
          go_quiet (fail)
          go_wp2
          go_ret
          exact ⟨ret_bool HF.out.symm, bdrewN hbw _⟩
      · have HF := hide (show a = b by
          have h := HE.out
          have := HN.out
          rwa [List.take_of_length_le (by omega), List.take_of_length_le (by omega)] at h)
        go_wp2
        go_ret
        exact ⟨ret_bool (by rw [HF.out]; simp), hbw⟩
  · have q : (((a.length : Int)) != ((b.length : Int))) = true := by rw [bne_iff_ne]; omega
    have HN := hide (show decide (a = b) = false by simp; intro e; exact hn (by rw [e]))
    clear hn
    go_enter Tryz.func55, Tryz.ntmps55
    go_wp2
    go_ret
    exact ⟨ret_bool HN.out.symm, Below.refl _ _⟩
set_option maxRecDepth 100000 in
set_option maxHeartbeats 2000000 in
theorem Equal_ops (va vb : Value) (a b : List Oq) (w : World) (ha : Oqs w va a) (hb : Oqs w vb b) :
    Calls Tryz.prog 54 #[va, vb] w fun e w' => e = .returned (.bool (decide (a = b))) ∧ Below w.heap.size w w' := by
  have ha' := ha
  have hb' := hb
  obtain ⟨A, c, rfl, h1, h2, -⟩ := ha'
  obtain ⟨B, d, rfl, h3, h4, -⟩ := hb'
  unfold maxLen at h2 h4
  have HA := hide ha
  have HB := hide hb
  clear ha hb
  by_cases hn : a.length = b.length
  · have q : (((a.length : Int)) != ((b.length : Int))) = false := by rw [bne_eq_false_iff_eq]; omega
    have HN := hide hn
    clear hn
    go_enter Tryz.func54, Tryz.ntmps54
    go_wp2
    go_loopw [13] (fun i wr => ∃ k : Nat, k ≤ a.length ∧ i = .int .i64 k ∧ Below w.heap.size w wr ∧ Hid (a.take k = b.take k)) (fun i _ => a.length - (Go.RowKit.intOf i).toNat)
    case atStart => exact ⟨0, Nat.zero_le _, rfl, Below.refl _ _, hide (by simp)⟩
    case round =>
      obtain ⟨k, hk, rfl, hbw, HE⟩ := hrel
      by_cases hlt : k < a.length
      · have hlb : k < b.length := by have := HN.out; omega
        obtain ⟨k1, r1, x1, z1, q1⟩ : ∃ k' r x z, a[k] = (⟨k', r, x, z⟩ : Oq) := ⟨_, _, _, _, rfl⟩
        obtain ⟨k2, r2, x2, z2, q2⟩ : ∃ k' r x z, b[k] = (⟨k', r, x, z⟩ : Oq) := ⟨_, _, _, _, rfl⟩
        obtain ⟨b1, o1, rfl, -, c0, c1, c2, c3⟩ := oq_at (HA.out.below hbw) hlt q1
        obtain ⟨b2, o2, rfl, -, d0, d1, d2, d3⟩ := oq_at (HB.out.below hbw) hlb q2
        obtain ⟨D, hD, hnp⟩ : ∃ D, D = decide (a[k] = b[k]) ∧ ∀ w, (binOp .neq 106 (qv k1 r1 x1 z1) (qv k2 r2 x2 z2)).run Tryz.prog w = .ok (.bool (!D)) w :=
          ⟨_, rfl, fun w => by rw [neq_cop, q1, q2]⟩
        clear q1 q2
        by_cases he : a[k] = b[k]
        · have e1 : D = true := hD.trans (decide_eq_true he)
          rw [e1] at hnp
          have HE' := hide (show a.take (k + 1) = b.take (k + 1) by rw [List.take_succ_eq_append_getElem hlt, List.take_succ_eq_append_getElem hlb, HE.out, he])
          clear e1 he hD
          go_wp2
          go_quiet (fail)
          go_wp2
          go_roundw
          case rel => exact ⟨k + 1, by omega, by go_num, bdrewN hbw _, HE'⟩
          case measure => simp [Go.RowKit.intOf]; omega
        · have e1 : D = false := hD.trans (decide_eq_false he)
          rw [e1] at hnp
          have HF := hide (show decide (a = b) = false by
            simp only [decide_eq_false_iff_not]
            intro h
            apply he
            simp [h])
          clear e1 he hD
          go_wp2
          go_quiet (fail)
          go_wp2
          go_ret
          exact ⟨ret_bool HF.out.symm, bdrewN hbw _⟩
      · have HF := hide (show a = b by
          have h := HE.out
          have := HN.out
          rwa [List.take_of_length_le (by omega), List.take_of_length_le (by omega)] at h)
        go_wp2
        go_ret
        exact ⟨ret_bool (by rw [HF.out]; simp), hbw⟩
  · have q : (((a.length : Int)) != ((b.length : Int))) = true := by rw [bne_iff_ne]; omega
    have HN := hide (show decide (a = b) = false by simp; intro e; exact hn (by rw [e]))
    clear hn
    go_enter Tryz.func54, Tryz.ntmps54
    go_wp2
    go_ret
    exact ⟨ret_bool HN.out.symm, Below.refl _ _⟩
set_option maxHeartbeats 2000000 in
theorem EqualFunc_ops (va vb : Value) (a b : List (List Oq)) (w : World) (ha : GridO w va a) (hb : GridO w vb b) :
    Calls Tryz.prog 53 #[va, vb, .func (.func 54) #[] #[]] w fun e w' => e = .returned (.bool (decide (a = b))) ∧ Below w.heap.size w w' := by
  obtain ⟨A, c, rfl, h1, h2⟩ := ha.form
  obtain ⟨B, d, rfl, h3, h4⟩ := hb.form
  unfold maxLen at h2 h4
  have HA := hide ha
  have HB := hide hb
  clear ha hb
  by_cases hn : a.length = b.length
  · have q : (((a.length : Int)) != ((b.length : Int))) = false := by rw [bne_eq_false_iff_eq]; omega
    have HN := hide hn
    clear hn
    go_enter Tryz.func53, Tryz.ntmps53
    go_wp2
    go_loopw [17] (fun i wr => ∃ k : Nat, k ≤ a.length ∧ i = .int .i64 k ∧ Below w.heap.size w wr ∧ Hid (a.take k = b.take k)) (fun i _ => a.length - (Go.RowKit.intOf i).toNat)
    case atStart => exact ⟨0, Nat.zero_le _, rfl, Below.refl _ _, hide (by simp)⟩
    case round =>
      obtain ⟨k, hk, rfl, hbw, HE⟩ := hrel
      by_cases hlt : k < a.length
      · have hlb : k < b.length := by have := HN.out; omega
        obtain ⟨b1, o1, u1, rfl, -, c0, r1⟩ := gridO_at (HA.out.below hbw) hlt
        obtain ⟨b2, o2, u2, rfl, -, c2, r2⟩ := gridO_at (HB.out.below hbw) hlb
        have hT := hide (show a.take (k + 1) = a.take k ++ [a[k]] ∧ b.take (k + 1) = b.take k ++ [b[k]] from ⟨List.take_succ_eq_append_getElem hlt, List.take_succ_eq_append_getElem hlb⟩)
        have hG := hide (show a = b → a[k] = b[k] by intro h; simp [h])
        generalize a[k] = x at *
        generalize b[k] = y at *
        have R1 := hide r1
        have R2 := hide r2
        obtain ⟨A1, d1, rfl, -⟩ := r1
        obtain ⟨A2, d2, rfl, -⟩ := r2
        go_wp2_with fail
        (with_reducible refine (Equal_ops _ _ x y _ R1.out R2.out).mono ?_)
        rintro e w2 ⟨rfl, hb2⟩
        by_cases he : x = y
        · rw [decide_eq_true he]
          have HE' := hide (show a.take (k + 1) = b.take (k + 1) by rw [hT.out.1, hT.out.2, HE.out, he])
          clear he
          go_wp2
          go_roundw
          case rel => exact ⟨k + 1, by omega, by go_num, bcall hbw hb2, HE'⟩
          case measure => simp [Go.RowKit.intOf]; omega
        · rw [decide_eq_false he]
          have HF := hide (show decide (a = b) = false by
            simp only [decide_eq_false_iff_not]
            exact fun h => he (hG.out h))
          clear he
          go_wp2
          go_ret
          exact ⟨ret_bool HF.out.symm, bcall hbw hb2⟩
      · have HF := hide (show a = b by
          have h := HE.out
          have := HN.out
          rwa [List.take_of_length_le (by omega), List.take_of_length_le (by omega)] at h)
        go_wp2
        go_ret
        exact ⟨ret_bool (by rw [HF.out]; simp), hbw⟩
  · have q : (((a.length : Int)) != ((b.length : Int))) = true := by rw [bne_iff_ne]; omega
    have HN := hide (show decide (a = b) = false by simp; intro e; exact hn (by rw [e]))
    clear hn
    go_enter Tryz.func53, Tryz.ntmps53
    go_wp2
    go_ret
    exact ⟨ret_bool HN.out.symm, Below.refl _ _⟩
abbrev numV (a b c d e f g h : Int) : Value := .agg #[.int .i64 a, .int .i64 b, .int .i64 c, .int .i64 d, .int .i64 e, .int .i64 f, .int .i64 g, .int .i64 h]
theorem eqIn_nums (a b c d e f g h a' b' c' d' e' f' g' h' : Int) (w : World) : (Op.equalIn 10000 99 (numV a b c d e f g h) (numV a' b' c' d' e' f' g' h')).run Tryz.prog w = .ok (decide ([a, b, c, d, e, f, g, h] = [a', b', c', d', e', f', g', h'])) w := by
  obtain ⟨i, hi⟩ := Option.isSome_iff_exists.1 (show (Tryz.prog.info? 2).isSome = true by kernel_rfl)
  rw [run_equalIn_array w 9999 _ _ (n := 8) (e := 2) (by kernel_rfl) hi]
  have hc : Tryz.prog.cellsOf 2 = 1 := by kernel_rfl
  have hu : Tryz.prog.underlying 2 = some (.int .i64) := by kernel_rfl
  rw [hc]
  have hr : List.range 8 = [0, 1, 2, 3, 4, 5, 6, 7] := rfl
  rw [hr]
  have key : ∀ (xs ys : List Int) (is : List Nat) (X Y : Array Value), (∀ (p i : Nat), is[p]? = some i → ∃ x y, xs[p]? = some x ∧ ys[p]? = some y ∧ (part 2 X (i * 1)).run Tryz.prog w = .ok (.int .i64 x) w ∧ (part 2 Y (i * 1)).run Tryz.prog w = .ok (.int .i64 y) w) →
      xs.length = is.length → ys.length = is.length → (Op.eqItems 9999 2 1 X Y is).run Tryz.prog w = .ok (decide (xs = ys)) w := by
    intro xs
    induction xs with
    | nil =>
      intro ys is X Y _ h1 h2
      obtain rfl : is = [] := List.length_eq_zero_iff.1 h1.symm
      obtain rfl : ys = [] := List.length_eq_zero_iff.1 h2
      simp [Op.eqItems]
    | cons x xs ih =>
      intro ys is X Y hp h1 h2
      cases is with
      | nil => simp at h1
      | cons i is =>
        cases ys with
        | nil => simp at h2
        | cons y ys =>
          obtain ⟨x', y', ex, ey, p1, p2⟩ := hp 0 i rfl
          obtain rfl : x = x' := by simpa using ex
          obtain rfl : y = y' := by simpa using ey
          rw [Op.eqItems, Sem.run_bind, p1, Result.andThen_ok, Sem.run_bind, p2, Result.andThen_ok, Sem.run_bind, run_equalIn_int w 9998 _ .i64 .i64 x y hu, Result.andThen_ok]
          by_cases hxy : x = y
          · have := ih ys is X Y (fun p j hj => by obtain ⟨u, v, q⟩ := hp (p + 1) j (by simpa using hj); exact ⟨u, v, by simpa using q⟩) (by simpa using h1) (by simpa using h2)
            simp [hxy, this]
          · simp [hxy]
  refine key _ _ _ _ _ ?_ rfl rfl
  intro p i hp
  have : p < 8 := (List.getElem?_eq_some_iff.1 hp).1
  rcases (by omega : p = 0 ∨ p = 1 ∨ p = 2 ∨ p = 3 ∨ p = 4 ∨ p = 5 ∨ p = 6 ∨ p = 7) with rfl | rfl | rfl | rfl | rfl | rfl | rfl | rfl
  all_goals (simp only [List.getElem?_cons_succ, List.getElem?_cons_zero, Option.some.injEq] at hp; subst hp; refine ⟨_, _, rfl, rfl, ?_, ?_⟩ <;> simp [go_sem])
theorem eql_nums (a b c d e f g h a' b' c' d' e' f' g' h' : Int) (w : World) : (binOp .eql 99 (numV a b c d e f g h) (numV a' b' c' d' e' f' g' h')).run Tryz.prog w = .ok (.bool (decide ([a, b, c, d, e, f, g, h] = [a', b', c', d', e', f', g', h']))) w := by
  rw [run_eql_struct, eqIn_nums]; rfl
set_option maxRecDepth 100000 in
set_option maxHeartbeats 4000000 in
theorem numbersOf_any (a b c d e f g h n : Int) (ob : Value) (s : Nat) (rg pg pk : Value) (w : World) :
    Calls Tryz.prog 49 #[planV a b c d e f g h n ob s rg pg pk] w fun x w' => x = .returned (numV a b c d e f g h) ∧ Below w.heap.size w w' := by
  obtain ⟨w1, e1, hb1, hs1, X⟩ := bp_new w a b c d e f g h n ob s rg pg pk 30
  have HE := hide e1
  have HB1 := hide hb1
  have HX := hide X
  have HS1 := hide hs1
  have HN := hide (show (w1.alloc (.cells #[.int .i64 a, .int .i64 b, .int .i64 c, .int .i64 d, .int .i64 e, .int .i64 f, .int .i64 g, .int .i64 h] 99)).heap[w.heap.size + 1]? = some (.cells #[.int .i64 a, .int .i64 b, .int .i64 c, .int .i64 d, .int .i64 e, .int .i64 f, .int .i64 g, .int .i64 h] 99 (0, 0)) from by rw [← hs1]; exact heap_alloc_new w1 _)
  obtain ⟨x0, x1, x2, x3, x4, x5, x6, x7⟩ := (X.below ((Below.refl _ w1).alloc (Nat.le_refl _) (.cells #[.int .i64 0, .int .i64 0, .int .i64 0, .int .i64 0, .int .i64 0, .int .i64 0, .int .i64 0, .int .i64 0] 99))).all
  clear e1 X hb1 hs1
  unfold planV
  go_enter Tryz.func49, Tryz.ntmps49
  go_wp2_with fail
  rw [HE.out]
  go_wp2
  refine bodyPost_ret (results_row Tryz.results49 (w.heap.size + 1) rfl _ _ _ _ HN.out Tryz.underlying99 rfl (by kernel_rfl)) rfl ?_
  exact ⟨rfl, (HB1.out).alloc (by rw [HS1.out]; omega) _⟩
end Go.Proofs.YtjnokhaojpijhaaGreatDoor
