/- Layer set: Text. -/
import Derived.Test.YtnodloeiabbliaaDoorSetIter
import Derived.Test.YtnodloeiabbliaaDoorCore2
namespace Go.Proofs.YtnodloeiabbliaaDoor
open Go.RowKit Go.Shelf Go.Proofs
attribute [local go_sem] Oper.semAt_some

theorem rowF_kept {W W' : World} {row : Option Nat} {B : Nat} {e : TypeId} {v : Value} {n : Nat} {xs : List Value} (h : W.ownsRowF B e 1 v n xs) (hg : W.grownBy W' row) (hr : ∀ r, row = some r → ∃ o : Obj, W.heap[r]? = some o ∧ o.isCells = false) : W'.ownsRowF B e 1 v n xs := by
  refine ⟨h.1, ?_⟩
  rcases h.2 with h0 | ⟨g, cap, cur, fz, hv, hb, hh, hrest⟩
  · exact .inl h0
  · refine .inr ⟨g, cap, cur, fz, hv, hb, (hg.block g (Array.getElem?_eq_some_iff.1 hh).1 ?_).trans hh, hrest⟩
    intro e0
    obtain ⟨o, ho, hc⟩ := hr g e0.symm
    rw [hh] at ho; cases ho; cases hc
theorem builder_kept {W W' : World} {row : Option Nat} {T e : TypeId} {B b : Nat} {bs : List Value} (h : Lib.IsBuilderF T e B b bs W) (hg : W.grownBy W' row) (hr : ∀ r, row = some r → ∃ o : Obj, W.heap[r]? = some o ∧ o.isCells = false) : Lib.IsBuilderF T e B b bs W' := by
  have at_ : ∀ p, Lib.BuilderAtF T e B b p bs W → Lib.BuilderAtF T e B b p bs W' := fun p h => by
    obtain ⟨h1, v, h2, h3, h4⟩ := h
    refine ⟨h1, v, (hg.block b (Array.getElem?_eq_some_iff.1 h2).1 ?_).trans h2, rowF_kept h3 hg hr, h4⟩
    intro e0
    obtain ⟨o, ho, hc⟩ := hr b e0.symm
    rw [h2] at ho; cases ho; cases hc
  exact h.imp (at_ _) (at_ _)
theorem builder_cells {W : World} {T e : TypeId} {B b : Nat} {bs : List Value} (h : Lib.IsBuilderF T e B b bs W) : ∃ cs, W.heap[b]? = some (.cells cs T (0, 0)) := by
  rcases h with ⟨_, v, h2, _⟩ | ⟨_, v, h2, _⟩ <;> exact ⟨_, h2⟩
/-- what a builder's writer leaves alone -/
theorem keeps_of_others {W W' : World} {T e : TypeId} {B b n : Nat} {bs : List Value} (h : Lib.IsBuilderF T e B b bs W) (hk : Lib.OthersKept e (some b) W W') (hs : W.heap.size ≤ W'.heap.size) : KeepsFrom n W W' :=
  ⟨hs, fun k o _ hk1 ho => hk k o hk1 (fun e0 => by
    cases e0
    obtain ⟨cs, hc⟩ := builder_cells h
    rw [hc] at hk1; cases hk1; cases ho) (fun c fz e0 => by subst e0; cases ho)⟩
theorem builder_alloc {W : World} {T e : TypeId} {B b : Nat} {bs : List Value} (h : Lib.IsBuilderF T e B b bs W) (o : Obj) : Lib.IsBuilderF T e B b bs (W.alloc o) :=
  builder_kept (row := none) h ⟨rfl, rfl, rfl, by simp, fun i hi _ => Below.heap_alloc _ _ _ hi⟩ (fun r h => by cases h)

theorem flat_le (l : List Int) : (l.flatMap fun o => 44 :: dig o).length ≤ 3 * l.length := by
  rw [tx_len]
  induction l with
  | nil => simp
  | cons o l ih => rw [List.map_cons, List.sum_cons, List.length_cons]; split <;> omega
theorem text_le (l : List Int) : (textL l).length ≤ 3 * l.length := by
  cases l with
  | nil => simp [textL]
  | cons o l =>
    have := flat_le l
    have h2 : (dig o).length ≤ 2 := by rw [dig_len]; split <;> omega
    rw [textL_cons, List.length_append, List.length_cons]; omega

set_option maxRecDepth 100000 in
set_option maxHeartbeats 4000000 in
theorem Text_in (s : Nat) (hs : s < 18446744073709551616) (hs0 : s ≠ 0) (w : World) (hE : Env w) :
    CallsIn Fence.wide 4 Tryd.prog 29 #[.int .u64 s] w fun e W' => e = .returned (.string ⟨(textL (objs s)).toArray⟩) ∧ Below w.heap.size w W' := by
  have hT := hE.tab
  have hTl := tab_lt hT
  have hT2 := Go.Lib.hid hT
  clear hT hE
  have hne : ((s : Int) == 0) = false := by rw [beq_eq_false_iff_ne]; omega
  refine callsIn_of_wp_marks Tryd.func29 rfl trivial ?_ rfl
  simp only [Tryd.ntmps29, List.size_toArray, List.length_cons, List.length_nil, Nat.reduceAdd, Nat.reduceSub, Array.replicate_succ, Array.replicate_zero, List.push_toArray, List.append_toArray, List.nil_append, List.cons_append]
  gi_wp2_with (refine ⟨trivial, ?_⟩; gi_at_call 36; refine (callsIn_wide.2 (objects_any _ _)).mono ?_; rintro e w' ⟨rfl, rfl⟩)
  have hB0 : Below w.heap.size w (w.alloc (.cells #[.pointer none, .slice none 0 0] 62)) := (Below.refl _ w).alloc (Nat.le_refl _) _
  have hB1 : Below w.heap.size w ((w.alloc (.cells #[.pointer none, .slice none 0 0] 62)).alloc (.cells #[.int .u64 s] 23)) := hB0.alloc (by simp) _
  have hI0 : Lib.IsBuilderF 62 5 w.heap.size w.heap.size (Lib.byteCells (textL (vals []))) ((w.alloc (.cells #[.pointer none, .slice none 0 0] 62)).alloc (.cells #[.int .u64 s] 23)) :=
    builder_alloc (Lib.IsBuilderF.of (Lib.fresh_isBuilder _ _ w)) _
  refine wpIn_rangeFunc_ownG rfl (by decide) (gf := 46) (lb := #[.pointer (some ⟨w.heap.size + 1, 0, none⟩)]) rfl trivial (enters_of Tryd.func46 (by kernel_rfl) rfl)
    (iter_stops (4 - 1) (by decide) (w.heap.size + 1) w.heap.size s hs _ (by simp) (by simp; omega) (by simp) (tab_below hT2.out hTl hB1) hTl) belowK_t (belowK_b (by simp; omega)) (Below.refl _ _) (fun _ => rfl)
    (fun pre W => Lib.IsBuilderF 62 5 w.heap.size w.heap.size (Lib.byteCells (textL (vals pre))) W ∧ Below w.heap.size w W)
    (fun _ _ _ => False)
    (OwnFrom.and (fun pre A B row h hg hr => builder_kept h hg (fun r e => (hr r e).2)) (ownFrom_below (Nat.le_refl _) (by simp; omega)))
    (fun _ _ _ _ _ hs _ _ => hs)
    ⟨hI0, hB1⟩
    (fun x => { tmps := #[.int .u64 s, undef, .string ⟨#[]⟩, .pointer (some ⟨w.heap.size, 0, none⟩), .int .i64 x.1, .int .u64 s, .bool false, .int .u64 s, .func (.func 46) #[] #[.pointer (some ⟨w.heap.size + 1, 0, none⟩)], .int .i64 x.1, undef, undef, undef, undef, undef, undef, undef], defers := [] }) ?assign ?body ?done ?stop
  case assign =>
    intro l x W K hK
    gi_wp2
    exact hK
  case body =>
    rintro l pre x W ⟨hI, hB⟩ hlt
    have hxr := x.2
    obtain ⟨x, hx1, hx2⟩ := x
    obtain ⟨m, rfl⟩ : ∃ m : Nat, x = m := ⟨x.toNat, by omega⟩
    dsimp only at *
    have hItoa := Go.Lib.hid (Tryd.strconv_Itoa_small m (by omega))
    rw [dig_dec m (by omega)] at hItoa
    have hlen : (textL (vals pre)).length ≤ 192 := by have := text_le (vals pre); rw [vals_len] at this; omega
    have hdl : (dig (m : Int)).length ≤ 2 := by rw [dig_len]; split <;> omega
    have hsz := hB.size
    have hBC := Lib.byteCells_length (textL (vals pre))
    have hLen := Tryd.Builder_Len_f w.heap.size w.heap.size _ W hI
    rw [hBC] at hLen
    have hsn : textL (vals (pre ++ [⟨(m : Int), hx1, hx2⟩])) = txStep (textL (vals pre)) (m : Int) := by rw [vals_snoc, textL_snoc]
    by_cases hp : textL (vals pre) = []
    · have hL0 : Calls Tryd.prog 37 #[.pointer (some ⟨w.heap.size, 0, none⟩)] W fun e w' => e = .returned (.int .i64 0) ∧ w' = W := hLen.mono fun e w' ⟨he, hw⟩ => ⟨by rw [he, hp]; rfl, hw⟩
      have hL1 := Go.Lib.hid hL0
      rw [hp] at hI
      have hW1 := Go.Lib.hid (Builder_WriteString_k w.heap.size w.heap.size _ ⟨(dig (m : Int)).toArray⟩ W hI (by rw [Lib.byteCells_length, ba_size]; simp; omega) hsz)
      rw [hp] at hsn
      have HS := Go.Lib.hid hsn
      clear hLen hL0 hsn hp hBC
      gi_wp2_with (first
        | (refine ⟨trivial, ?_⟩; gi_at_call 37; refine (CallsIn.inRound l (callsIn_wide.2 hL1.out)).mono ?_; rintro e w' ⟨rfl, rfl⟩)
        | (refine ⟨trivial, ?_⟩; gi_at_call 39; refine (CallsIn.inRound l (callsIn_wide.2 (hItoa.out _))).mono ?_; rintro e w' ⟨rfl, rfl⟩)
        | (refine ⟨trivial, ?_⟩; gi_at_call 38; refine (CallsIn.inRound l (callsIn_wide.2 hW1.out)).mono ?_; rintro e w2 ⟨rfl, hb2, hB2, hk2⟩))
      refine ⟨keeps_of_others hI hk2 hB2.size, hB2, ?_, hB.trans hB2⟩
      rw [HS.out, txStep, if_pos rfl]
      exact .inr hb2
    · have hk0 : 0 < (textL (vals pre)).length := List.length_pos_iff.2 hp
      generalize hk : (textL (vals pre)).length = k at hLen hlen hk0
      have hL1 := Go.Lib.hid hLen
      have hW1 := Go.Lib.hid (Builder_WriteString_k w.heap.size w.heap.size _ ⟨#[44]⟩ W hI (by rw [Lib.byteCells_length, hk]; show k + 1 ≤ _; omega) hsz)
      have HS := Go.Lib.hid hsn
      have HP := Go.Lib.hid hp
      have HK := Go.Lib.hid hk
      clear hLen hsn hp hBC hk
      gi_wp2_with (first
        | (refine ⟨trivial, ?_⟩; gi_at_call 37; refine (CallsIn.inRound l (callsIn_wide.2 hL1.out)).mono ?_; rintro e w' ⟨rfl, rfl⟩)
        | (refine ⟨trivial, ?_⟩; gi_at_call 38; refine (CallsIn.inRound l (callsIn_wide.2 hW1.out)).mono ?_; clear hW1; rintro e w2 ⟨rfl, hb2, hB2, hk2⟩))
      have hsz2 : w.heap.size ≤ w2.heap.size := Nat.le_trans hsz hB2.size
      have hW2 := Go.Lib.hid (Builder_WriteString_k w.heap.size w.heap.size _ ⟨(dig (m : Int)).toArray⟩ w2 (.inr hb2) (by have hds := ba_size (dig (m : Int)); rw [List.length_append, Lib.byteCells_length, HK.out, Lib.strCells_length]; show k + 1 + _ ≤ _; omega) hsz2)
      gi_wp2_with (first
        | (refine ⟨trivial, ?_⟩; gi_at_call 39; refine (CallsIn.inRound l (callsIn_wide.2 (hItoa.out _))).mono ?_; rintro e w' ⟨rfl, rfl⟩)
        | (refine ⟨trivial, ?_⟩; gi_at_call 38; refine (CallsIn.inRound l (callsIn_wide.2 hW2.out)).mono ?_; rintro e w3 ⟨rfl, hb3, hB3, hk3⟩))
      refine ⟨(keeps_of_others hI hk2 hB2.size).trans (keeps_of_others (.inr hb2) hk3 hB3.size), hB2.trans hB3, ?_, (hB.trans hB2).trans hB3⟩
      rw [HS.out, txStep, if_neg HP.out, Lib.byteCells_append, Lib.byteCells_append]
      exact .inr hb3
  case done =>
    rintro D ys W hD hys ⟨hI, hB⟩ hK
    rw [hys] at hI
    clear hys
    have hsz := hB.size
    gi_wp2_with (refine ⟨trivial, ?_⟩; gi_at_call 40; refine (callsIn_wide.2 (Tryd.Builder_String_any_k w.heap.size w.heap.size _ _ hI hsz)).mono ?_; rintro e w' ⟨rfl, hI2, hb2, hk2⟩)
    have hK2 := hk2 D _ hK (by intro e0; injection e0 with e0; simp at hD; omega) (by intro c fz e0; cases e0)
    refine ⟨by simp, .inl ⟨_, _, rfl, run_takeDeferred hK2, ?_⟩⟩
    exact ⟨_, results_tmp rfl _ _ _, rfl, (hB.trans hb2).trans (belowK_b (w := w) (Nat.le_refl _) w' D _ _ (by simp at hD; omega) hK2 rfl rfl)⟩
  case stop =>
    rintro D c pre W _ _ h _
    exact h.elim
theorem Text_any (s : Nat) (hs : s < 18446744073709551616) (w : World) (hE : Env w) :
    Calls Tryd.prog 29 #[.int .u64 s] w fun e W' => e = .returned (.string ⟨(textF s).toArray⟩) ∧ Below w.heap.size w W' := by
  by_cases h0 : s = 0
  · subst h0
    go_enter Tryd.func29, Tryd.ntmps29
    go_wp2
    go_ret
    exact ⟨rfl, Below.refl _ _⟩
  · have := (callsIn_wide (n := 4)).1 (Text_in s hs h0 w hE)
    unfold textF
    rw [if_neg h0]
    exact this
end Go.Proofs.YtnodloeiabbliaaDoor
