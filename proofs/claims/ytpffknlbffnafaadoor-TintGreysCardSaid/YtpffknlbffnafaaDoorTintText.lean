/- Layer tint: Text. -/
import Derived.Test.YtpffknlbffnafaaDoorTintTurn
import Derived.Test.YtpffknlbffnafaaDoorTintShelf
import Derived.Test.YtpffknlbffnafaaDoorSetIter
namespace Go.Proofs.YtpffknlbffnafaaDoor
open Go.RowKit Go.Shelf Go.Proofs

/-- the library's table, and the letters, as the program's text lays them -/
structure EnvL (w : World) : Prop where
  env : EnvT w
  let_ : ∀ j : Nat, j < 3 → w.cell? ⟨0, j, none⟩ = some (.int .u8 ((tLetter (j : Int)).toNat : Int))
theorem EnvL.below {w w' : World} (h : EnvL w) (hb : Below w.heap.size w w') : EnvL w' :=
  ⟨h.env.below hb, fun j hj => keepc hb (h.let_ j hj)⟩
theorem builder_cells {W : World} {T e : TypeId} {B b : Nat} {bs : List Value} (h : Lib.IsBuilderF T e B b bs W) : ∃ cs, W.heap[b]? = some (.cells cs T (0, 0)) := by
  rcases h with ⟨_, v, h2, _⟩ | ⟨_, v, h2, _⟩ <;> exact ⟨_, h2⟩
theorem own_others {w w' : World} {base : Nat} {e T U : TypeId} {v : Value} {n b : Nat} {xs : List Value} {cs : Array Value} {fz : Nat × Nat} (h : w.ownsRow base e 1 v n xs) (hk : Lib.OthersKept U (some b) w w')
    (hb : w.heap[b]? = some (.cells cs T fz)) (hT : T ≠ e) (hU : e ≠ U) : w'.ownsRow base e 1 v n xs := by
  obtain ⟨h1, h2 | ⟨g, cap, cur, rfl, hg, hh, hr⟩⟩ := h
  · exact ⟨h1, .inl h2⟩
  · refine ⟨h1, .inr ⟨g, cap, cur, rfl, hg, hk g _ hh (fun e0 => ?_) (fun c f e0 => ?_), hr⟩⟩
    · injection e0 with e0
      subst e0
      rw [hb] at hh; injection hh with hh; injection hh with _ hh _; exact hT hh
    · injection e0 with _ e0 _; exact hU e0
theorem text_snoc (m b : Nat) (l : List Int) (k : Nat) (h : k < l.length) : (l.take (k + 1)).map (fun o => tLetter (tOf m b o)) = (l.take k).map (fun o => tLetter (tOf m b o)) ++ [tLetter (tOf m b l[k])] := by
  rw [List.take_succ_eq_append_getElem h, List.map_append]; rfl
theorem byte_snoc (l : List UInt8) (c : UInt8) : Lib.byteCells (l ++ [c]) = Lib.byteCells l ++ [.int .u8 (c.toNat : Int)] := by
  rw [Lib.byteCells_append]; rfl

set_option maxHeartbeats 4000000 in
theorem Text_any (m b : Nat) (n : Int) (hm : m < 18446744073709551616) (hb : b < 18446744073709551616) (h0 : -9223372036854775808 ≤ n) (h1 : n ≤ 9223372036854775807) (w : World) (hE : EnvL w) :
    Calls Tryd.prog 25 #[tv m b, .int .i64 n] w fun e w' => e = .returned (.string ⟨(tText m b n).toArray⟩) ∧ Below w.heap.size w w' := by
  obtain ⟨w1, e1, hB, hs1, a0, a1, -, -⟩ := box1 w (.int .u64 m) (.int .u64 b) 25
  have HE1 := hide e1
  have HV := hide (hE.below hB)
  clear e1 hE
  obtain ⟨w2, e2⟩ : ∃ w2, w1.alloc (.cells #[.pointer none, .slice none 0 0] 64) = w2 := ⟨_, rfl⟩
  have HE2 := hide e2
  have hb2 : Below w1.heap.size w1 w2 := by rw [← e2]; exact bal _ _
  have hs2 : w2.heap.size = w1.heap.size + 1 := by rw [← e2]; simp
  have hI2 : Lib.IsBuilderF 64 5 w1.heap.size (w.heap.size + 1) (Lib.byteCells []) w2 := by rw [← hs1, ← e2]; exact Lib.IsBuilderF.of (Lib.fresh_isBuilder _ _ w1)
  clear e2
  go_enter Tryd.func25, Tryd.ntmps25
  go_wp2_with fail
  rw [HE1.out, HE2.out]
  (with_reducible refine (First_any n _ h0 h1).mono ?_)
  rintro e w2 ⟨rfl, rfl⟩
  go_wp2_with fail
  (with_reducible refine (List_tab _ (first_lt n) _ (HV.out.below hb2).env).mono ?_)
  rintro e w3 ⟨v, rfl, hrow, hb3⟩
  obtain ⟨l, hl⟩ : ∃ l, objs (firstF n) = l := ⟨_, rfl⟩
  have HL := hide (show tText m b n = l.map fun o => tLetter (tOf m b o) by unfold tText; rw [hl])
  have HR := hide (show ∀ o ∈ l, 1 ≤ o ∧ o ≤ 64 by rw [← hl]; exact fun o ho => objs_rng ho)
  have hll : l.length ≤ 64 := by rw [← hl]; exact objs_len _
  rw [hl] at hrow
  clear hl
  obtain ⟨A, c, hv, hc1, hc2⟩ := own_form hrow
  subst hv
  unfold maxLen at hc2
  have hI3 := hide (builder_below hI2 hb3)
  have HO := hide hrow
  have hb13 := hide (btr hb2 hb3 (by omega))
  clear hrow hI2 hb3 hb2
  go_wp2
  go_loopw [12] (fun i wr => ∃ k : Nat, k ≤ l.length ∧ i = .int .i64 k ∧ Below w1.heap.size w1 wr ∧ Hid (wr.ownsRow w2.heap.size 3 1 (.slice A l.length c) l.length (l.flatMap ic)) ∧ Hid (Lib.IsBuilderF 64 5 w1.heap.size (w.heap.size + 1) (Lib.byteCells ((l.take k).map fun o => tLetter (tOf m b o))) wr)) (fun i _ => l.length - (intOf i).toNat)
  case atStart => exact ⟨0, Nat.zero_le _, rfl, hb13.out, HO, hI3⟩
  case round =>
    obtain ⟨k, hk, rfl, hbw, HW, HI⟩ := hrel
    have hszw := hbw.size
    by_cases hlt : k < l.length
    · obtain ⟨g, off, rfl, hbl, c0⟩ := ints_at (Sl.of_own ic_len HW.out) hlt
      obtain ⟨r1, r2⟩ := HR.out _ (List.getElem_mem hlt)
      have HS := hide (text_snoc m b l k hlt)
      have htl : (l.take k).length ≤ 64 := by have := List.length_take_le' k l; omega
      generalize l[k] = o at *
      have d0 := keepc hbw a0
      have d1 := keepc hbw a1
      obtain ⟨j, hj, hj3⟩ : ∃ j : Nat, tOf m b o = (j : Int) ∧ j < 3 := ⟨(tOf m b o).toNat, by have := tOf_rng m b o; omega, by have := tOf_rng m b o; omega⟩
      have HJ := hide hj
      have HLT := hide ((HV.out.below hbw).let_ j hj3)
      clear hj
      go_wp2_with fail
      (with_reducible refine (Of_any m b o hm hb (by omega) (by omega) _).mono ?_)
      rintro e w4 ⟨rfl, hb4⟩
      rw [HJ.out]
      have f0 := keepc hb4 HLT.out
      have HI4 := hide (builder_below HI.out hb4)
      have HW4 := hide (own_below HW.out hb4)
      have hbw4 := btr hbw hb4 (by omega)
      have hsz4 := hbw4.size
      clear hb4
      go_wp2_with fail
      (with_reducible refine (Builder_WriteByte_k w1.heap.size (w.heap.size + 1) _ _ _ HI4.out (by rw [Lib.byteCells_length, List.length_map]; omega) hsz4).mono ?_)
      rintro e w5 ⟨rfl, hI5, hb5, hk5⟩
      obtain ⟨cs, hcs⟩ := builder_cells HI4.out
      have HW5 := hide (own_others HW4.out hk5 hcs (by decide) (by decide))
      have HI5 := hide (show Lib.IsBuilderF 64 5 w1.heap.size (w.heap.size + 1) (Lib.byteCells ((l.take (k + 1)).map fun o => tLetter (tOf m b o))) w5 by rw [HS.out, byte_snoc, HJ.out]; exact .inr hI5)
      clear hcs hI5 hk5
      go_wp2
      go_roundw
      case rel => exact ⟨k + 1, by omega, by go_num, hbw4.trans hb5, HW5, HI5⟩
      case measure => simp [intOf]; omega
    · have hke : l.take k = l := List.take_of_length_le (by omega)
      go_wp2_with fail
      (with_reducible refine (Tryd.Builder_String_any_k w1.heap.size (w.heap.size + 1) _ _ HI.out hszw).mono ?_)
      rintro e w5 ⟨rfl, -, hb5, -⟩
      rw [hke]
      go_wp2
      go_ret
      exact ⟨by rw [HL.out]; rfl, btr hB (hbw.trans hb5) (by omega)⟩
end Go.Proofs.YtpffknlbffnafaaDoor
