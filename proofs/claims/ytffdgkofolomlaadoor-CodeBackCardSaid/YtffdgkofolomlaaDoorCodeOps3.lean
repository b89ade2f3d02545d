/- Layer code: ops. -/
import Derived.Test.YtffdgkofolomlaaDoorCodeOps2
namespace Go.Proofs.YtffdgkofolomlaaDoor
open Go.RowKit Go.Shelf Go.Proofs
attribute [local go_sem] Oper.semAt_some

/-- what ops answers -/
def OpsP (t : List UInt8) (w : World) (e : Ending) (w' : World) : Prop :=
  (match cOps (cut 59 t) with
   | none => PanC e
   | some l => if 64 < l.length then e = .returned (.tuple #[.slice none 0 0, .int .i64 3]) else ∃ v, e = .returned (.tuple #[v, .int .i64 0]) ∧ w'.ownsRow w.heap.size 24 4 v l.length (l.flatMap oq)) ∧ Below w.heap.size w w'
set_option maxRecDepth 100000 in
set_option maxHeartbeats 8000000 in
theorem ops_any (s : ByteArray) (w : World) (hs : s.size ≤ 9223372036854775807) : CallsIn Fence.wide 4 Tryd.prog 26 #[.string s] w (OpsP s.data.toList w) := by
  obtain ⟨i0, hi, hz0, hz1, hz2⟩ := info_parts infoCop
  obtain ⟨W5, eW, h5, h0⟩ := ops_start w s
  refine callsAt Tryd.func26 rfl ?_
  simp only [Tryd.ntmps26, List.size_toArray, List.length_cons, List.length_nil, Nat.reduceAdd, Nat.reduceSub, Array.replicate_succ, Array.replicate_zero, List.push_toArray, List.append_toArray, List.nil_append, List.cons_append]
  refine WpAt.seq (WpAt.of_wp (n := 4) ?_)
  gi_wp2
  refine WpAt.seq (WpAt.of_wp (n := 4) ?_)
  gi_wp2
  refine WpAt.seq (WpAt.of_wp (n := 4) ?_)
  gi_wp2
  refine WpAt.seq ?_
  refine WpAt.seq (WpAt.of_wp (n := 4) ?_)
  gi_wp2_with (refine ⟨trivial, ?_⟩; gi_at_call 35; refine (callsIn_wide.2 (SplitSeq_any _ _)).mono ?_; rintro e w' ⟨rfl, rfl⟩)
  refine WpAt.block ?_
  refine WpAt.rangeFunc (gf := 44) (lb := #[.pointer (some ⟨w.heap.size + 3, 0, none⟩), .pointer (some ⟨w.heap.size + 2, 0, none⟩), .pointer (some ⟨w.heap.size + 4, 0, none⟩)]) rfl (enters_of Tryd.func44 (by kernel_rfl) rfl) ?_
  refine CallsIn.mono (ops_loop (fun x => { tmps := #[.string s, undef, .slice none 0 0, .int .i64 0, .pointer (some ⟨w.heap.size, 0, none⟩), .pointer (some ⟨w.heap.size + 1, 0, none⟩), .string x, undef, .string s,
    .func (.func 44) #[] #[.pointer (some ⟨w.heap.size + 1 + 1 + 1, 0, none⟩), .pointer (some ⟨w.heap.size + 1 + 1, 0, none⟩), .pointer (some ⟨w.heap.size + 1 + 1 + 2, 0, none⟩)], .string x, undef, undef, undef, undef, undef, undef, undef, undef, undef, undef, undef, undef], defers := [] }) w W5 s hs h5 h0 ?ha ?hb) ?post
  case ha =>
    intro l x W K hK
    gi_wp2
    exact hK
  case hb =>
    intro l acc v xx k rec x W hO hk hx
    subst hk
    have HRd := Go.Lib.hid (read_any x · hx)
    have HO := Go.Lib.hid hO
    obtain ⟨o, ho⟩ : ∃ o, cOne x.data.toList = o := ⟨_, rfl⟩
    rw [ho] at HRd ⊢
    clear hO ho
    cases o with
    | none =>
      have f1 := as_noOp
      gi_wp2_with (refine ⟨trivial, ?_⟩; gi_at_call 36; refine (CallsIn.inRound l (callsIn_wide.2 (HRd.out _))).mono ?_; rintro e w1 ⟨(rfl | ⟨u, vv, rfl⟩), hb1⟩)
      · exact ⟨⟨_, _, rfl⟩, HO.out.below (bcall hb1 (cbal _ _))⟩
      · exact ⟨⟨_, _, rfl⟩, HO.out.below hb1⟩
    | some q =>
      obtain ⟨kk, r, a, z⟩ := q
      have f1 := as_op kk r a z
      dsimp only [RdV] at HRd
      obtain ⟨A, c, hv, hc1, hc2⟩ := own_form HO.out.row
      by_cases h64 : 64 ≤ acc.length
      · rw [show (acc.take 64).length = 64 by rw [List.length_take]; omega] at hv
        subst hv
        clear hc1 hc2
        gi_wp2_with (refine ⟨trivial, ?_⟩; gi_at_call 36; refine (CallsIn.inRound l (callsIn_wide.2 (HRd.out _))).mono ?_; rintro e w1 ⟨rfl, hb1⟩; obtain ⟨w2, e2, hb2, hs2, X⟩ := b4_new w1 (.int .i64 kk) (.int .i64 r) (.int .i64 a) (.int .i64 z) 24; obtain ⟨X0, X1, X2, X3⟩ := X.all; have hs2 := Go.Lib.hid hs2; have hO2 := HO.out.below (bcall hb1 hb2); have g1 := hO2.bl.cell; have g2 := hO2.ov.cell; have g3 := hO2.ov.frozen; replace hO2 := Go.Lib.hid hO2)
        exact ⟨_, hO2.out.over rfl h64 _⟩
      · rw [show (acc.take 64).length = acc.length by rw [List.length_take]; omega] at hv
        subst hv
        have hn : acc.length ≠ 64 := by omega
        have qk : ((acc.length : Int) == 64) = false := by rw [beq_eq_false_iff_ne]; omega
        have ht : acc.take 64 = acc := List.take_of_length_le (by omega)
        gi_wp2_with (first
          | (refine ⟨trivial, ?_⟩; gi_at_call 36; refine (CallsIn.inRound l (callsIn_wide.2 (HRd.out _))).mono ?_; rintro e w1 ⟨rfl, hb1⟩; obtain ⟨w2, e2, hb2, hs2, X⟩ := b4_new w1 (.int .i64 kk) (.int .i64 r) (.int .i64 a) (.int .i64 z) 24; obtain ⟨X0, X1, X2, X3⟩ := X.all; have hs2 := Go.Lib.hid hs2; have hO2 := HO.out.below (bcall hb1 hb2); have hsz := hO2.bw.size; have g1 := hO2.bl.cell; have g2 := hO2.bl.frozen; have hR := hO2.row; rw [ht] at hR; replace hO2 := Go.Lib.hid hO2; have hR := Go.Lib.hid hR; have hsz := Go.Lib.hid hsz)
          | (gi_at_builtin; refine wpListIn_append_own _ rfl _ _ 22 rfl w.heap.size 24 i0 (.agg #[.int .i64 0, .int .i64 0, .int .i64 0, .int .i64 0]) 4 32 Tryd.underlying22 hi hz0 hz1 hz2 rfl (by decide) _ _ _ rfl (hR.out.alloc _) ⟨_, 0, none⟩ 1 1 [.int .i64 kk, .int .i64 r, .int .i64 a, .int .i64 z] rfl rfl (row_at _ _ _ (by have := hs2.out; first | (simp; omega) | omega)) (by simp [Value.oneCell']) (by simp only [maxLen]; omega) (by omega) (by have := hsz.out; have := hs2.out; first | (simp; omega) | omega) ?_; intro v' w3 hown' hgrow _; obtain ⟨g', cap', rfl⟩ := ownsRow_succ hown'; obtain ⟨hc1, hf1, hO3⟩ := hO2.out.app (q := ⟨kk, r, a, z⟩) rfl (by omega) (by rw [ht]; exact hown') hgrow; replace hO3 := Go.Lib.hid hO3))
        exact ⟨_, hO3.out⟩
  case post =>
    rintro e w3 (⟨⟨v, rfl⟩, acc, v', x, rec, h1, hst, hpe, hO⟩ | ⟨ch, rfl, hp, h1, hd, hb⟩)
    · have hlp := hO.lp
      rw [show w.heap.size + 6 = W5.heap.size + 1 by omega] at hlp
      refine Or.inl ⟨_, _, rfl, (run_endLoop (P := Tryd.prog) hlp (by rw [hst]; simp)).trans (by rw [hpe]), Or.inl ⟨rfl, ?_⟩⟩
      refine WpAt.of_wp (n := 4) ?_
      rw [h5]
      have hlen := cOps_len h1
      have hO4 := hO.putL { rec with state := .exhausted, pending := none }
      obtain ⟨w4, e4⟩ : ∃ w4, w3.putObj (w.heap.size + 6) (.loop { rec with state := .exhausted, pending := none }) = w4 := ⟨_, rfl⟩
      rw [e4] at hO4
      rw [show w.heap.size + 5 + 1 = w.heap.size + 6 from rfl, e4]
      have g1 := hO4.bl.cell
      have g2 := hO4.ov.cell
      have HO4 := Go.Lib.hid hO4
      have H1 := Go.Lib.hid h1
      clear hO4 hO hlp e4 h0 eW h1
      by_cases h64 : 64 < (cut 59 s.data.toList).length
      · have qd : decide (64 < (cut 59 s.data.toList).length) = true := decide_eq_true h64
        gi_wp2
        refine ⟨by simp, .inl ⟨_, _, rfl, run_takeDeferred HO4.out.df, ?_⟩⟩
        refine ⟨.tuple #[.slice none 0 0, .int .i64 3], by simp [results, Tryd.results26, go_sem], ?_⟩
        unfold OpsP
        rw [H1.out]
        simp only
        rw [if_pos (by omega)]
        exact ⟨by first | trivial | rfl, HO4.out.bw.trans (belowK_b (w := w) (Nat.le_refl _) _ _ _ _ (by omega) HO4.out.df rfl rfl)⟩
      · have qd : decide (64 < (cut 59 s.data.toList).length) = false := decide_eq_false h64
        gi_wp2
        refine ⟨by simp, .inl ⟨_, _, rfl, run_takeDeferred HO4.out.df, ?_⟩⟩
        refine ⟨.tuple #[v', .int .i64 0], by simp [results, Tryd.results26, go_sem], ?_⟩
        unfold OpsP
        rw [H1.out]
        simp only
        rw [if_neg (by omega)]
        have hr := HO4.out.row
        rw [List.take_of_length_le (by omega)] at hr
        exact ⟨⟨v', by first | trivial | rfl, ownsRow_putObj hr _ HO4.out.df rfl⟩, HO4.out.bw.trans (belowK_b (w := w) (Nat.le_refl _) _ _ _ _ (by omega) HO4.out.df rfl rfl)⟩
    · refine Or.inr ⟨ch, rfl, Or.inr ⟨ch, rfl, Or.inr ⟨ch, rfl, ?_⟩⟩⟩
      rw [h5]
      refine ⟨by simp, .inl ⟨_, _, rfl, run_takeDeferred hd, ?_⟩⟩
      show OpsP s.data.toList w (.panicked ch) _
      unfold OpsP
      rw [h1]
      obtain ⟨u, v, rfl⟩ := hp
      exact ⟨⟨u, v, rfl⟩, belowK_b (w := w) (Nat.le_refl _) _ _ _ _ (by omega) hd rfl rfl |> hb.trans⟩
end Go.Proofs.YtffdgkofolomlaaDoor
