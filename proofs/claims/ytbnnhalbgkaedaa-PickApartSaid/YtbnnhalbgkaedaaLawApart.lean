/- PickApart: for any two lists of bytes: two lists of right picks are printed alike just if they are the same; of two lists one behind the other the text is both's. No condition. -/
import Derived.Test.YtbnnhalbgkaedaaEx
import Derived.Test.YtbnnhalbgkaedaaSome
import Derived.Test.YtbnnhalbgkaedaaText
namespace Go.Proofs.Ytbnnhalbgkaedaa.lawApart
open Go.RowKit Go.WideShapes Go.ChangeShapes Go.ChangeAt Go.Proofs.Ytbnnhalbgkaedaa

theorem someF_right (b : Int) : right (someF b) = true := by
  unfold someF right
  split
  · rfl
  · split <;> simp <;> omega
theorem printL_app (x y : List PP) : printL (x ++ y) = printL x ++ printL y := by simp [printL]
/-- the first so many -/
theorem take_min {w : World} {A : Option Addr} {c : Nat} {l : List Int} (k : Nat) (h : Bytes w (.slice A l.length c) l) : Bytes w (.slice A (min (l.length : Int) (k : Int)).toNat c) (l.take k) := by
  have h1 := sl_take (j := (min (l.length : Int) (k : Int)).toNat) h (by omega)
  have e : l.take (min (l.length : Int) (k : Int)).toNat = l.take k := by
    by_cases hk : l.length ≤ k
    · rw [List.take_of_length_le hk, List.take_of_length_le (by omega)]
    · congr 1; omega
  rwa [e] at h1

set_option maxHeartbeats 8000000 in
theorem walk (va vb : Value) (la lb : List Int) (w : World) (ha : Bytes w va la) (hb : Bytes w vb lb) (hra : ∀ b ∈ la, 0 ≤ b ∧ b ≤ 255) (hrb : ∀ b ∈ lb, 0 ≤ b ∧ b ≤ 255) :
    Calls Try.prog 9 #[va, vb] w fun e w' => e = .returned (.bool true) ∧ Below w.heap.size w w' := by
  obtain ⟨i0, hi, hz0, hz1, hz2⟩ := info_parts info32
  have ha' := ha
  have hb' := hb
  obtain ⟨A, c, rfl, h1, h2, -⟩ := ha'
  obtain ⟨B, d, rfl, h3, h4, -⟩ := hb'
  unfold maxLen at h2 h4
  have hta : (la.take 500).length ≤ 500 := List.length_take_le _ _
  have htb : (lb.take 500).length ≤ 500 := List.length_take_le _ _
  have hqa := hide (fun b (h : b ∈ la.take 500) => hra b (List.mem_of_mem_take h))
  have hqb := hide (fun b (h : b ∈ lb.take 500) => hrb b (List.mem_of_mem_take h))
  have hra := hide hra
  have hrb := hide hrb
  obtain ⟨X, hX⟩ : ∃ X, (la.take 500).map someF = X := ⟨_, rfl⟩
  obtain ⟨Y, hY⟩ : ∃ Y, (lb.take 500).map someF = Y := ⟨_, rfl⟩
  have lX : X.length ≤ 500 := by rw [← hX, List.length_map]; exact hta
  have lY : Y.length ≤ 500 := by rw [← hY, List.length_map]; exact htb
  have rX : ∀ p ∈ X, right p = true := by rw [← hX]; intro p hp; obtain ⟨b, _, rfl⟩ := List.mem_map.1 hp; exact someF_right b
  have rY : ∀ p ∈ Y, right p = true := by rw [← hY]; intro p hp; obtain ⟨b, _, rfl⟩ := List.mem_map.1 hp; exact someF_right b
  have HEQ := hide (show decide (X = Y) = (printL X == printL Y) by
    rw [Bool.eq_iff_iff, decide_eq_true_eq, beq_iff_eq]
    exact ⟨fun h => by rw [h], printL_inj X Y rX rY (by omega) (by omega)⟩)
  have HAP := hide (printL_app X Y)
  have pX := printL_le X
  have pY := printL_le Y
  have HX := hide hX
  have HY := hide hY
  have lXY : (X ++ Y).length ≤ 1000 := by rw [List.length_append]; omega
  clear hX hY rX rY
  have ha := hide (show Bytes w (.slice A (min (la.length : Int) 500).toNat c) (la.take 500) from take_min 500 ha)
  have hb := hide (show Bytes w (.slice B (min (lb.length : Int) 500).toNat d) (lb.take 500) from take_min 500 hb)
  go_enter Try.func9, Try.ntmps9
  go_wp2_with fail
  refine (examples_any _).mono ?_
  rintro e w1 ⟨rfl, hb1⟩
  go_wp2_with fail
  (with_reducible refine (some_any _ (la.take 500) _ (ha.out.below hb1) hqa.out (by omega)).mono ?_)
  rintro e w2 ⟨v2, rfl, ho2, hb2⟩
  rw [HX.out] at ho2
  have hbb := bcall hb1 hb2
  have hX2 := hide (Sl.of_own pc_len ho2)
  clear ho2
  go_wp2_with fail
  (with_reducible refine (some_any _ (lb.take 500) _ (hb.out.below hbb) hqb.out (by omega)).mono ?_)
  rintro e w3 ⟨v3, rfl, ho3, hb3⟩
  rw [HY.out] at ho3
  have hbb := bcall hbb hb3
  have hX3 := hide (hX2.out.below hb3)
  have hY3 := hide (Sl.of_own pc_len ho3)
  clear ho3
  go_wp2_with (first
    | (at_builtin; refine wpList_append_sl _ rfl (.const (.slice none 0 0)) _ 22 rfl w3.heap.size 32 i0 (.agg #[.int .i64 0, .int .i64 0]) 2 16 Try.underlying22 hi hz0 hz1 hz2 rfl (by decide) _ _ _ rfl (World.ownsRow_nil _ _ _ _) _ X rfl hX3.out pc_len (fun p u hu => by simp [pc] at hu; rcases hu with rfl | rfl <;> rfl) (by simp only [maxLen]; omega) (by omega) (by omega) ?_; intro v4 w4 ho4 hb4; have hs4 := hb4.size)
    | (at_builtin; refine wpList_append_sl _ rfl _ _ 22 rfl w3.heap.size 32 i0 (.agg #[.int .i64 0, .int .i64 0]) 2 16 Try.underlying22 hi hz0 hz1 hz2 rfl (by decide) _ _ _ rfl ho4 _ Y rfl (hY3.out.below hb4) pc_len (fun p u hu => by simp [pc] at hu; rcases hu with rfl | rfl <;> rfl) (by simp only [maxLen]; omega) (by omega) (by omega) ?_; intro v5 w5 ho5 hb5; have hb5 := hb4.trans hb5; have hX5 := hide (hX3.out.below hb5); have hY5 := hide (hY3.out.below hb5); have hC5 := hide (show Picks w5 v5 (X ++ Y) from Sl.of_own pc_len (by rw [List.length_append, List.flatMap_append]; simpa using ho5))))
  have hbb := bcall hbb hb5
  (with_reducible refine (Print_any _ X _ hX5.out (by omega)).mono ?_)
  rintro e w6 ⟨rfl, hb6⟩
  have hbw := hb6
  go_wp2_with fail
  (with_reducible refine (Print_any _ Y _ (hY5.out.below hbw) (by omega)).mono ?_)
  rintro e w7 ⟨rfl, hb7⟩
  have hbw := bcall hbw hb7
  go_wp2_with fail
  (with_reducible refine (same_any _ _ X Y _ (hX5.out.below hbw) (hY5.out.below hbw)).mono ?_)
  rintro e w8 ⟨rfl, hb8⟩
  have hbw := bcall hbw hb8
  rw [HEQ.out]
  go_wp2_with fail
  (with_reducible refine (Print_any _ (X ++ Y) _ (hC5.out.below hbw) (by omega)).mono ?_)
  rintro e w9 ⟨rfl, hb9⟩
  have hbw := bcall hbw hb9
  go_wp2_with fail
  (with_reducible refine (Print_any _ X _ (hX5.out.below hbw) (by omega)).mono ?_)
  rintro e w10 ⟨rfl, hb10⟩
  have hbw := bcall hbw hb10
  go_wp2_with fail
  (with_reducible refine (Print_any _ Y _ (hY5.out.below hbw) (by omega)).mono ?_)
  rintro e w11 ⟨rfl, hb11⟩
  have hbw := bcall hbw hb11
  rw [HAP.out]
  go_wp2
  go_ret
  refine ⟨ret_bool ?_, hbb.trans (hbw.mono hbb.size)⟩
  simp [ba_append, ba_toList]
set_option maxRecDepth 100000 in
theorem lifted (os : Os) (started : os.Started) (H : Type) (enc : TypeId × Value → H) :
    ReturnsInHanded {} Try.checked os 9 .any (Rows.pickApartSpec.pre6 enc Try.prog Try.f9 Rows.pickApartRow.domain false) (Rows.pickApartSpec.post enc Try.prog Try.f9 false true false false) := by
  refine returnsInHanded_of_change_sized (C := Try.checked) ownL started (by kernel_rfl) Try.func9
    (ChangeSpec.witness6 (enc := enc) (C := Try.checked) false ⟨#[], #[.slice none 0 0, .slice none 0 0], []⟩ 8 (by kernel_rfl) (by kernel_rfl) (by kernel_rfl) (by kernel_rfl)) ?_
  intro W base args ds gs before hval hW _ hsz0 _
  have hW' := hW
  obtain ⟨p, q, hA0, hV, rfl, hfz, hnd⟩ := hW
  have hA : DataW.TrodAll enc Try.prog W 0 (fun _ => true) true Try.f9.params.toList args.toList ds p := hA0
  rw [Try.params9] at hA hval
  obtain ⟨v0, vs0, d0, ds0, p0, q0, hargs, rfl, rfl, h0, r0⟩ := trodAll_cons hA
  obtain ⟨v1, vs1, d1, ds1, p1, q1, rfl, rfl, rfl, h1, r1⟩ := trodAll_cons r0
  obtain ⟨rfl, rfl, rfl⟩ := trodAll_nil r1
  obtain rfl : args = #[v0, v1] := by cases args; simp_all
  obtain ⟨rfl, rfl⟩ := trodVars_none hV
  obtain ⟨l0, hl0, hq0, hd0⟩ := open_bytes (hval 0 46 v0 rfl rfl) h0
  obtain ⟨l1, hl1, hq1, hd1⟩ := open_bytes (hval 1 46 v1 rfl rfl) h1
  have hsz : (DataW.weightsEach Try.prog [46, 46] ([d0, d1] : List (DataW H))).all (· ≤ reachBytes) = true := hsz0
  have e0 : l0.length * 1 ≤ 140737488351232 := slice_reach hsz 0 rfl rfl Try.underlying46 (by kernel_rfl) hd0
  have e1 : l1.length * 1 ≤ 140737488351232 := slice_reach hsz 1 rfl rfl Try.underlying46 (by kernel_rfl) hd1
  refine (walk v0 v1 l0 l1 W hl0 hl1 hq0 hq1).mono fun e W' ⟨he, hg⟩ => ?_
  subst he
  exact ⟨_, rfl, law_post laidOutL (by kernel_rfl) rfl Try.underlying4 rfl ⟨rfl, rfl, rfl⟩ hW' hg⟩

/-- THE STATEMENT -/
theorem proved : Rows.PickApartSaid :=
  OpenClaim.holds_of_wide 9 Try.f9 rfl rfl rfl rfl rfl rfl rfl ⟨rfl, rfl, rfl, rfl, rfl⟩ rfl rfl rfl rfl rfl (by kernel_rfl) Try.func9 (by kernel_rfl)
    (of_decide_eq_true (by kernel_rfl)) (by unfold Func.isWrapper; first | (rw [if_pos (by decide +kernel)]; kernel_rfl) | (rw [if_neg (by decide +kernel)]; exact ⟨rfl, rfl⟩))
    (fun os started H enc _ => lifted os started H enc)
end Go.Proofs.Ytbnnhalbgkaedaa.lawApart
