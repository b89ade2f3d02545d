/- PickKnown: for two lists of picks and two numbers: what came in is known just if each part is; more machines know no fewer. Condition: the arguments hold together at most 1048576 values ('..UptoSaid'). -/
import Derived.Test.YtbnnhalbgkaedaaEx
import Derived.Test.YtbnnhalbgkaedaaLaw
import Derived.Test.YtbnnhalbgkaedaaRead
namespace Go.Proofs.Ytbnnhalbgkaedaa.lawKnown
open Go.RowKit Go.WideShapes Go.ChangeShapes Go.ChangeAt Go.Proofs.Ytbnnhalbgkaedaa

theorem there_up1 {p : PP} {x y : Int} (h : there p x y = true) : there p (x + 1) y = true := by
  simp only [there, Bool.and_eq_true, Bool.or_eq_true, bne_iff_ne, ne_eq, decide_eq_true_eq] at *
  exact ⟨⟨h.1.1, by have := h.1.2; omega⟩, by have := h.2; omega⟩
theorem there_up2 {p : PP} {x y : Int} (h : there p x y = true) : there p x (y + 1) = true := by
  simp only [there, Bool.and_eq_true, Bool.or_eq_true, bne_iff_ne, ne_eq, decide_eq_true_eq] at *
  exact ⟨⟨h.1.1, by have := h.1.2; omega⟩, by have := h.2; omega⟩
theorem all_up1 {l : List PP} {x y : Int} (h : (l.all fun p => there p x y) = true) : (l.all fun p => there p (x + 1) y) = true :=
  List.all_eq_true.2 fun p hp => there_up1 (List.all_eq_true.1 h p hp)
theorem all_up2 {l : List PP} {x y : Int} (h : (l.all fun p => there p x y) = true) : (l.all fun p => there p x (y + 1)) = true :=
  List.all_eq_true.2 fun p hp => there_up2 (List.all_eq_true.1 h p hp)

set_option maxHeartbeats 4000000 in
theorem walk (va vb : Value) (la lb : List PP) (n m : Int) (w : World) (ha : Picks w va la) (hb : Picks w vb lb) (hn0 : 0 ≤ n) (hn1 : n ≤ 255) (hm0 : 0 ≤ m) (hm1 : m ≤ 255) (hlen : la.length + lb.length ≤ 4000000) :
    Calls Try.prog 8 #[va, vb, .int .u8 n, .int .u8 m] w fun e w' => e = .returned (.bool true) ∧ Below w.heap.size w w' := by
  obtain ⟨i0, hi, hz0, hz1, hz2⟩ := info_parts info32
  go_enter Try.func8, Try.ntmps8
  go_wp2_with fail
  refine (examples_any _).mono ?_
  rintro e w1 ⟨rfl, hb1⟩
  have ha := hide (ha.below hb1)
  have hbb := hide (hb.below hb1)
  clear hb
  have hs1 := hb1.size
  cases hA : la.all fun p => there p (n % 20) (m % 20)
  all_goals cases hB : lb.all fun p => there p (n % 20) (m % 20)
  · have hAB : (la ++ lb).all (fun p => there p (n % 20) (m % 20)) = false := by rw [List.all_append, hA, hB]; rfl
    have HA := hide hA
    have HB := hide hB
    have HAB := hide hAB
    clear hA hB hAB
    go_wp2_with (first
      | (at_builtin; refine wpList_append_sl _ rfl (.const (.slice none 0 0)) _ 22 rfl w1.heap.size 32 i0 (.agg #[.int .i64 0, .int .i64 0]) 2 16 Try.underlying22 hi hz0 hz1 hz2 rfl (by decide) _ _ _ rfl (World.ownsRow_nil _ _ _ _) va la rfl ha.out pc_len (fun p u hu => by simp [pc] at hu; rcases hu with rfl | rfl <;> rfl) (by simp only [maxLen]; omega) (by omega) (by omega) ?_; intro v2 w2 ho2 hb2; have hs2 := hb2.size)
      | (at_builtin; refine wpList_append_sl _ rfl _ _ 22 rfl w1.heap.size 32 i0 (.agg #[.int .i64 0, .int .i64 0]) 2 16 Try.underlying22 hi hz0 hz1 hz2 rfl (by decide) _ _ _ rfl ho2 vb lb rfl (hbb.out.below hb2) pc_len (fun p u hu => by simp [pc] at hu; rcases hu with rfl | rfl <;> rfl) (by simp only [maxLen]; omega) (by omega) (by omega) ?_; intro v3 w3 ho3 hb3; have hb3 := hb2.trans hb3; have HC := hide (show Picks w3 v3 (la ++ lb) from Sl.of_own pc_len (by rw [List.length_append, List.flatMap_append]; simpa using ho3))))
    have hbw := hb3
    refine (Known_any _ (la ++ lb) _ _ _ HC.out).mono ?_
    rintro e w4 ⟨rfl, hb4⟩
    rw [HAB.out]
    have hbw := bcall hbw hb4
    have HC := hide (HC.out.below hb4)
    go_wp2_with fail
    refine (Known_any _ la _ _ _ (ha.out.below hbw)).mono ?_
    rintro e w5 ⟨rfl, hb5⟩
    rw [HA.out]
    have hbw := bcall hbw hb5
    have HC := hide (HC.out.below hb5)
    go_wp2
    go_ret
    exact ⟨rfl, bcall hb1 hbw⟩
  · have hAB : (la ++ lb).all (fun p => there p (n % 20) (m % 20)) = false := by rw [List.all_append, hA, hB]; rfl
    have HA := hide hA
    have HB := hide hB
    have HAB := hide hAB
    clear hA hB hAB
    go_wp2_with (first
      | (at_builtin; refine wpList_append_sl _ rfl (.const (.slice none 0 0)) _ 22 rfl w1.heap.size 32 i0 (.agg #[.int .i64 0, .int .i64 0]) 2 16 Try.underlying22 hi hz0 hz1 hz2 rfl (by decide) _ _ _ rfl (World.ownsRow_nil _ _ _ _) va la rfl ha.out pc_len (fun p u hu => by simp [pc] at hu; rcases hu with rfl | rfl <;> rfl) (by simp only [maxLen]; omega) (by omega) (by omega) ?_; intro v2 w2 ho2 hb2; have hs2 := hb2.size)
      | (at_builtin; refine wpList_append_sl _ rfl _ _ 22 rfl w1.heap.size 32 i0 (.agg #[.int .i64 0, .int .i64 0]) 2 16 Try.underlying22 hi hz0 hz1 hz2 rfl (by decide) _ _ _ rfl ho2 vb lb rfl (hbb.out.below hb2) pc_len (fun p u hu => by simp [pc] at hu; rcases hu with rfl | rfl <;> rfl) (by simp only [maxLen]; omega) (by omega) (by omega) ?_; intro v3 w3 ho3 hb3; have hb3 := hb2.trans hb3; have HC := hide (show Picks w3 v3 (la ++ lb) from Sl.of_own pc_len (by rw [List.length_append, List.flatMap_append]; simpa using ho3))))
    have hbw := hb3
    refine (Known_any _ (la ++ lb) _ _ _ HC.out).mono ?_
    rintro e w4 ⟨rfl, hb4⟩
    rw [HAB.out]
    have hbw := bcall hbw hb4
    have HC := hide (HC.out.below hb4)
    go_wp2_with fail
    refine (Known_any _ la _ _ _ (ha.out.below hbw)).mono ?_
    rintro e w5 ⟨rfl, hb5⟩
    rw [HA.out]
    have hbw := bcall hbw hb5
    have HC := hide (HC.out.below hb5)
    go_wp2
    go_ret
    exact ⟨rfl, bcall hb1 hbw⟩
  · have hAB : (la ++ lb).all (fun p => there p (n % 20) (m % 20)) = false := by rw [List.all_append, hA, hB]; rfl
    have HA := hide hA
    have HB := hide hB
    have HAB := hide hAB
    clear hA hB hAB
    go_wp2_with (first
      | (at_builtin; refine wpList_append_sl _ rfl (.const (.slice none 0 0)) _ 22 rfl w1.heap.size 32 i0 (.agg #[.int .i64 0, .int .i64 0]) 2 16 Try.underlying22 hi hz0 hz1 hz2 rfl (by decide) _ _ _ rfl (World.ownsRow_nil _ _ _ _) va la rfl ha.out pc_len (fun p u hu => by simp [pc] at hu; rcases hu with rfl | rfl <;> rfl) (by simp only [maxLen]; omega) (by omega) (by omega) ?_; intro v2 w2 ho2 hb2; have hs2 := hb2.size)
      | (at_builtin; refine wpList_append_sl _ rfl _ _ 22 rfl w1.heap.size 32 i0 (.agg #[.int .i64 0, .int .i64 0]) 2 16 Try.underlying22 hi hz0 hz1 hz2 rfl (by decide) _ _ _ rfl ho2 vb lb rfl (hbb.out.below hb2) pc_len (fun p u hu => by simp [pc] at hu; rcases hu with rfl | rfl <;> rfl) (by simp only [maxLen]; omega) (by omega) (by omega) ?_; intro v3 w3 ho3 hb3; have hb3 := hb2.trans hb3; have HC := hide (show Picks w3 v3 (la ++ lb) from Sl.of_own pc_len (by rw [List.length_append, List.flatMap_append]; simpa using ho3))))
    have hbw := hb3
    refine (Known_any _ (la ++ lb) _ _ _ HC.out).mono ?_
    rintro e w4 ⟨rfl, hb4⟩
    rw [HAB.out]
    have hbw := bcall hbw hb4
    have HC := hide (HC.out.below hb4)
    go_wp2_with fail
    refine (Known_any _ la _ _ _ (ha.out.below hbw)).mono ?_
    rintro e w5 ⟨rfl, hb5⟩
    rw [HA.out]
    have hbw := bcall hbw hb5
    have HC := hide (HC.out.below hb5)
    go_wp2_with fail
    refine (Known_any _ lb _ _ _ (hbb.out.below hbw)).mono ?_
    rintro e w6 ⟨rfl, hb6⟩
    rw [HB.out]
    have hbw := bcall hbw hb6
    have HC := hide (HC.out.below hb6)
    go_wp2
    go_ret
    exact ⟨rfl, bcall hb1 hbw⟩
  · have hAB : (la ++ lb).all (fun p => there p (n % 20) (m % 20)) = true := by rw [List.all_append, hA, hB]; rfl
    have HA := hide hA
    have HB := hide hB
    have HAB := hide hAB
    clear hA hB hAB
    have H1 := hide (all_up1 HAB.out)
    have H2 := hide (all_up2 HAB.out)
    go_wp2_with (first
      | (at_builtin; refine wpList_append_sl _ rfl (.const (.slice none 0 0)) _ 22 rfl w1.heap.size 32 i0 (.agg #[.int .i64 0, .int .i64 0]) 2 16 Try.underlying22 hi hz0 hz1 hz2 rfl (by decide) _ _ _ rfl (World.ownsRow_nil _ _ _ _) va la rfl ha.out pc_len (fun p u hu => by simp [pc] at hu; rcases hu with rfl | rfl <;> rfl) (by simp only [maxLen]; omega) (by omega) (by omega) ?_; intro v2 w2 ho2 hb2; have hs2 := hb2.size)
      | (at_builtin; refine wpList_append_sl _ rfl _ _ 22 rfl w1.heap.size 32 i0 (.agg #[.int .i64 0, .int .i64 0]) 2 16 Try.underlying22 hi hz0 hz1 hz2 rfl (by decide) _ _ _ rfl ho2 vb lb rfl (hbb.out.below hb2) pc_len (fun p u hu => by simp [pc] at hu; rcases hu with rfl | rfl <;> rfl) (by simp only [maxLen]; omega) (by omega) (by omega) ?_; intro v3 w3 ho3 hb3; have hb3 := hb2.trans hb3; have HC := hide (show Picks w3 v3 (la ++ lb) from Sl.of_own pc_len (by rw [List.length_append, List.flatMap_append]; simpa using ho3))))
    have hbw := hb3
    refine (Known_any _ (la ++ lb) _ _ _ HC.out).mono ?_
    rintro e w4 ⟨rfl, hb4⟩
    rw [HAB.out]
    have hbw := bcall hbw hb4
    have HC := hide (HC.out.below hb4)
    go_wp2_with fail
    refine (Known_any _ la _ _ _ (ha.out.below hbw)).mono ?_
    rintro e w5 ⟨rfl, hb5⟩
    rw [HA.out]
    have hbw := bcall hbw hb5
    have HC := hide (HC.out.below hb5)
    go_wp2_with fail
    refine (Known_any _ lb _ _ _ (hbb.out.below hbw)).mono ?_
    rintro e w6 ⟨rfl, hb6⟩
    rw [HB.out]
    have hbw := bcall hbw hb6
    have HC := hide (HC.out.below hb6)
    go_wp2_with fail
    refine (Known_any _ (la ++ lb) _ _ _ HC.out).mono ?_
    rintro e w7 ⟨rfl, hb7⟩
    rw [H1.out]
    have hbw := bcall hbw hb7
    have HC := hide (HC.out.below hb7)
    go_wp2_with fail
    refine (Known_any _ (la ++ lb) _ _ _ HC.out).mono ?_
    rintro e w8 ⟨rfl, hb8⟩
    rw [H2.out]
    have hbw := bcall hbw hb8
    have HC := hide (HC.out.below hb8)
    go_wp2
    go_ret
    exact ⟨rfl, bcall hb1 hbw⟩

set_option maxRecDepth 100000 in
theorem lifted (os : Os) (started : os.Started) (H : Type) (enc : TypeId × Value → H) (F : Stop.Interp) :
    ReturnsInHanded {} Try.checked os 8 .any ((Rows.OpenSpec.upto Rows.pickKnownSpec).pre6 enc Try.prog Try.f8 Rows.pickKnownUptoRow.domain false) (((Rows.OpenSpec.upto Rows.pickKnownSpec).at F).post enc Try.prog Try.f8 false true false false) := by
  refine returnsInHanded_of_cond_sized (C := Try.checked) (s := Rows.OpenSpec.upto Rows.pickKnownSpec) (k := Rows.uptoSmall) rfl ownL started (by kernel_rfl) Try.func8
    (OpenSpec.witness (enc := enc) (C := Try.checked) (s := Rows.OpenSpec.upto Rows.pickKnownSpec) (k := Rows.uptoSmall) rfl false ⟨#[], #[.slice none 0 0, .slice none 0 0, .int .u8 0, .int .u8 0], []⟩ 8 (by kernel_rfl) (by kernel_rfl) (by kernel_rfl)
      (x := ([.nil, .nil, .lit (.int .u8 0), .lit (.int .u8 0)], [], [])) (by kernel_rfl) rfl (by kernel_rfl)) ?_
  intro W base args ds gs before hval hW _ hk0 hsz0 _
  have hW' := hW
  obtain ⟨p, q, hA0, hV, rfl, hfz, hnd⟩ := hW
  have hA : DataW.TrodAll enc Try.prog W 0 (fun _ => true) true Try.f8.params.toList args.toList ds p := hA0
  rw [Try.params8] at hA hval
  obtain ⟨v0, vs0, d0, ds0, p0, q0, hargs, rfl, rfl, h0, r0⟩ := trodAll_cons hA
  obtain ⟨v1, vs1, d1, ds1, p1, q1, rfl, rfl, rfl, h1, r1⟩ := trodAll_cons r0
  obtain ⟨v2, vs2, d2, ds2, p2, q2, rfl, rfl, rfl, h2, r2⟩ := trodAll_cons r1
  obtain ⟨v3, vs3, d3, ds3, p3, q3, rfl, rfl, rfl, h3, r3⟩ := trodAll_cons r2
  obtain ⟨rfl, rfl, rfl⟩ := trodAll_nil r3
  obtain rfl : args = #[v0, v1, v2, v3] := by cases args; simp_all
  obtain ⟨rfl, rfl⟩ := trodVars_none hV
  obtain ⟨l0, hl0, hq0, hd0⟩ := open_picks (hval 0 22 v0 rfl rfl) h0
  obtain ⟨l1, hl1, hq1, hd1⟩ := open_picks (hval 1 22 v1 rfl rfl) h1
  obtain ⟨a2, rfl, rfl, rfl, w2⟩ := open_int Try.underlying5 (hval 2 5 v2 rfl rfl) h2
  have hx2 : 0 ≤ a2 ∧ a2 ≤ 255 := by simpa [Lit.wf, IntKind.min, IntKind.max, IntKind.signed, IntKind.bits] using w2
  obtain ⟨a3, rfl, rfl, rfl, w3⟩ := open_int Try.underlying5 (hval 3 5 v3 rfl rfl) h3
  have hx3 : 0 ≤ a3 ∧ a3 ≤ 255 := by simpa [Lit.wf, IntKind.min, IntKind.max, IntKind.signed, IntKind.bits] using w3
  have hk : Rows.uptoBulkAll ([d0, d1, .lit (.int .u8 a2), .lit (.int .u8 a3)] : List (DataW H)) ≤ 1048576 := of_decide_eq_true hk0
  have e0 : l0.length + 1 ≤ 1048576 := by have h1 := slice_bulk hd0; have h2 := bulk_mem hk 0 rfl; omega
  have e1 : l1.length + 1 ≤ 1048576 := by have h1 := slice_bulk hd1; have h2 := bulk_mem hk 1 rfl; omega
  refine (walk v0 v1 l0 l1 a2 a3 W hl0 hl1 hx2.1 hx2.2 hx3.1 hx3.2 (by omega)).mono fun e W' ⟨he, hg⟩ => ?_
  subst he
  exact ⟨_, rfl, law_post laidOutL (by kernel_rfl) rfl Try.underlying4 rfl ⟨rfl, rfl, rfl⟩ hW' hg⟩

/-- THE STATEMENT -/
theorem proved : Rows.PickKnownUptoSaid :=
  OpenClaim.holds_of_cond 8 Try.f8 rfl rfl rfl rfl rfl rfl rfl ⟨rfl, rfl, rfl, rfl, rfl⟩ rfl rfl rfl rfl rfl (by kernel_rfl) Try.func8 (by kernel_rfl)
    (of_decide_eq_true (by kernel_rfl)) (by unfold Func.isWrapper; first | (rw [if_pos (by decide +kernel)]; kernel_rfl) | (rw [if_neg (by decide +kernel)]; exact ⟨rfl, rfl⟩))
    (fun os started H enc _ F => lifted os started H enc F)
end Go.Proofs.Ytbnnhalbgkaedaa.lawKnown
