/- MemAll: for any cells, two lists of deeds: deeds in two parts are as they are in one; each tells what it would alone, behind those ahead. All arguments together at most 1048576 values. -/
import Derived.Test.YtncflfpmdcjmcaaMemUse3
namespace Go.Proofs.Ytncflfpmdcjmcaa.lawMemAll
open Go.RowKit Go.WideShapes Go.ChangeShapes Go.ChangeAt Go.Proofs Go.Proofs.Ytncflfpmdcjmcaa

set_option maxRecDepth 100000 in
set_option maxHeartbeats 8000000 in
theorem walk (v va vb : Value) (m : List Int) (a b : List Dd) (w : World) (h : Cells w v m) (ha : Dds w va a) (hb : Dds w vb b) (hm : m.length ≤ 1048576) (hla : a.length ≤ 1048576) (hlb : b.length ≤ 1048576) : Calls Try.prog 7 #[v, va, vb] w fun e w' => e = .returned (.bool true) ∧ Below w.heap.size w w' := by
  have GM := hide h
  have hB : Below w.heap.size w w := Below.refl _ _
  have DA := hide ha
  have DB := hide hb
  obtain ⟨A, c, rfl, hc1, hc2, -⟩ := h
  obtain ⟨A1, c1, rfl, ha1, ha2, -⟩ := ha
  obtain ⟨A2, c2, rfl, hb1, hb2, -⟩ := hb
  unfold maxLen at hc2 ha2 hb2
  obtain ⟨i0, hi, hz0, hz1, hz2⟩ := info_parts infoOp
  have f1 := allM_app a b m
  have f2 := allV_app a b m
  have f3 := allN_app a b m
  have lx := allM_len a m
  have ly := allM_len b (allM m a)
  have l1 := allV_len a m
  have l2 := allV_len b (allM m a)
  have n1 := allN_le a m
  have n2 := allN_le b (allM m a)
  have eM : ((allN m (a ++ b) : Nat) : Int) = ((allN m a : Nat) : Int) + ((allN (allM m a) b : Nat) : Int) := by rw [f3]; simp
  clear f3
  obtain ⟨X, hX⟩ : ∃ X, allM m a = X := ⟨_, rfl⟩
  rw [hX] at f1 f2 lx ly l2 n2 eM
  obtain ⟨Y, hY⟩ : ∃ Y, allM X b = Y := ⟨_, rfl⟩
  rw [hY] at f1 ly
  obtain ⟨H1, hH1⟩ : ∃ Y, allV m a = Y := ⟨_, rfl⟩
  rw [hH1] at f2 l1
  obtain ⟨H2, hH2⟩ : ∃ Y, allV X b = Y := ⟨_, rfl⟩
  rw [hH2] at f2 l2
  obtain ⟨I1, hI1⟩ : ∃ Y : Int, ((allN m a : Nat) : Int) = Y := ⟨_, rfl⟩
  obtain ⟨I2, hI2⟩ : ∃ Y : Int, ((allN X b : Nat) : Int) = Y := ⟨_, rfl⟩
  rw [hI1, hI2] at eM
  have bi1 : 0 ≤ I1 ∧ I1 ≤ 1048576 := by omega
  have bi2 : 0 ≤ I2 ∧ I2 ≤ 1048576 := by omega
  obtain ⟨bi1, bi1'⟩ := bi1
  obtain ⟨bi2, bi2'⟩ := bi2
  obtain ⟨T, hT⟩ : ∃ T, a.length + b.length = T := ⟨_, rfl⟩
  have hq : ((T : Int) != (a.length : Int) + (b.length : Int)) = false := by rw [bne_eq_false_iff_eq]; omega
  have hq2 : (I1 + I2 != I1 + I2) = false := by simp
  have hTb : T ≤ 2097152 := by omega
  have H_hX := hide hX
  have H_hY := hide hY
  have H_hH1 := hide hH1
  have H_hH2 := hide hH2
  have H_hI1 := hide hI1
  have H_hI2 := hide hI2
  have H_f1 := hide f1
  have H_f2 := hide f2
  have H_lx := hide lx
  have H_ly := hide ly
  have H_l1 := hide l1
  have H_l2 := hide l2
  have H_eM := hide eM
  have H_hT := hide hT
  have hlX := hide (show X.length = m.length from lx)
  have hlY := hide (show Y.length = m.length from ly.trans lx)
  have hlH := hide (show (H1 ++ H2).length = T by rw [List.length_append, l1, l2, hT])
  have hAll := hide (show allM m (a ++ b) = Y from f1)
  clear hX hY hH1 hH2 hI1 hI2 f1 f2 lx ly l1 l2 eM n1 n2 hT
  go_enter Try.func7, Try.ntmps7
  go_wp2_with fail
  (with_reducible refine (examples_any _).mono ?_)
  rintro e w0_ ⟨rfl, hb0_⟩
  have GM := hide (GM.out.below hb0_)
  have DA := hide (DA.out.below hb0_)
  have DB := hide (DB.out.below hb0_)
  have hB := bcall hB hb0_
  go_wp2_with fail
  (with_reducible refine (All_c _ _ m a _ GM.out DA.out (by omega) (by omega) X H1 I1 (H_hX.out) (H_hH1.out) (H_hI1.out) m.length a.length (hlX.out) (H_l1.out)).mono ?_)
  rintro e w1_ ⟨A1_, c1_, H1_, d1_, rfl, q1_, z1_, G1, G2, hb1_⟩
  have GM := hide (GM.out.below hb1_)
  have DA := hide (DA.out.below hb1_)
  have DB := hide (DB.out.below hb1_)
  have hB := bcall hB hb1_
  have G1 := hide G1
  have G2 := hide G2
  go_wp2_with fail
  (with_reducible refine (All_c _ _ X b _ G1.out DB.out (by rw [hlX.out]; omega) (by omega) Y H2 I2 (H_hY.out) (H_hH2.out) (H_hI2.out) m.length b.length (hlY.out) (H_l2.out)).mono ?_)
  rintro e w2_ ⟨A2_, c2_, H2_, d2_, rfl, q2_, z2_, G3, G4, hb2_⟩
  have GM := hide (GM.out.below hb2_)
  have DA := hide (DA.out.below hb2_)
  have DB := hide (DB.out.below hb2_)
  have G1 := hide (G1.out.below hb2_)
  have G2 := hide (G2.out.below hb2_)
  have hB := bcall hB hb2_
  have G3 := hide G3
  have G4 := hide G4
  go_wp2_with (at_builtin; refine wpList_append_sl _ rfl (.const (.slice none 0 0)) _ 27 rfl w2_.heap.size 26 i0 (.agg #[.int .i64 0, .int .i64 0, .int .u64 0, .int .u64 0]) 4 32 Try.underlying27 hi hz0 hz1 hz2 rfl (by decide) _ _ _ rfl (World.ownsRow_nil _ _ _ _) _ a rfl DA.out oc_len oc_one (by unfold maxLen; omega) (by omega) (by simp) ?_)
  intro v5 wa hown hba
  have hown : wa.ownsRow w2_.heap.size 26 4 v5 a.length (a.flatMap oc) := by simpa using hown
  obtain ⟨A5, c5, rfl, hd1, hd2⟩ := own_form hown
  have HO5 := hide hown
  clear hown
  have hsa := hba.size
  have DBa := hide (DB.out.below hba)
  go_wp2_with (at_builtin; refine wpList_append_sl _ rfl _ _ 27 rfl w2_.heap.size 26 i0 (.agg #[.int .i64 0, .int .i64 0, .int .u64 0, .int .u64 0]) 4 32 Try.underlying27 hi hz0 hz1 hz2 rfl (by decide) _ _ _ rfl HO5.out _ b rfl DBa.out oc_len oc_one (by unfold maxLen; omega) (by omega) hsa ?_)
  intro v6 wb hown hbb
  rw [H_hT.out] at hown
  have hown : wb.ownsRow w2_.heap.size 26 4 v6 T ((a ++ b).flatMap oc) := by rw [List.flatMap_append]; exact hown
  obtain ⟨A6, c6, rfl, he1, he2⟩ := own_form hown
  have D6 := hide (show Dds wb (.slice A6 T c6) (a ++ b) from Sl.of_own oc_len (by rw [List.length_append, H_hT.out]; exact hown))
  clear hown HO5
  have hbab : Below w2_.heap.size w2_ wb := hba.trans hbb
  have GM := hide (GM.out.below hbab)
  have DA := hide (DA.out.below hbab)
  have DB := hide (DB.out.below hbab)
  have G1 := hide (G1.out.below hbab)
  have G2 := hide (G2.out.below hbab)
  have G3 := hide (G3.out.below hbab)
  have G4 := hide (G4.out.below hbab)
  have hB := bcall hB hbab
  go_wp2_with fail
  (with_reducible refine (All_c _ _ m (a ++ b) _ GM.out D6.out (by omega) (by rw [List.length_append, H_hT.out]; omega) Y (H1 ++ H2) (I1 + I2) (hAll.out) (H_f2.out) (H_eM.out) m.length T (hlY.out) (hlH.out)).mono ?_)
  rintro e w3_ ⟨A3_, c3_, H3_, d3_, rfl, q3_, z3_, G5, G6, hb3_⟩
  have GM := hide (GM.out.below hb3_)
  have DA := hide (DA.out.below hb3_)
  have DB := hide (DB.out.below hb3_)
  have G1 := hide (G1.out.below hb3_)
  have G2 := hide (G2.out.below hb3_)
  have G3 := hide (G3.out.below hb3_)
  have G4 := hide (G4.out.below hb3_)
  have D6 := hide (D6.out.below hb3_)
  have hB := bcall hB hb3_
  have G5 := hide G5
  have G6 := hide G6
  go_wp2_with fail
  (with_reducible refine (Same_true Y _ G3.out G5.out).mono ?_)
  rintro e w4_ ⟨rfl, hb4_⟩
  have GM := hide (GM.out.below hb4_)
  have DA := hide (DA.out.below hb4_)
  have DB := hide (DB.out.below hb4_)
  have G1 := hide (G1.out.below hb4_)
  have G2 := hide (G2.out.below hb4_)
  have G3 := hide (G3.out.below hb4_)
  have G4 := hide (G4.out.below hb4_)
  have D6 := hide (D6.out.below hb4_)
  have G5 := hide (G5.out.below hb4_)
  have G6 := hide (G6.out.below hb4_)
  have hB := bcall hB hb4_
  go_wp2
  go_loopw [17] (fun i wr => ∃ x : Nat, x ≤ T ∧ i = .int .i64 x ∧ Below w4_.heap.size w4_ wr) (fun i _ => T - (Go.RowKit.intOf i).toNat)
  case atStart => exact ⟨0, Nat.zero_le _, rfl, Below.refl _ _⟩
  case round =>
    obtain ⟨x, hx, rfl, hbw⟩ := hrel
    have hbw0 := hbw
    have GM := hide (GM.out.below hbw)
    have DA := hide (DA.out.below hbw)
    have DB := hide (DB.out.below hbw)
    have G1 := hide (G1.out.below hbw)
    have G2 := hide (G2.out.below hbw)
    have G3 := hide (G3.out.below hbw)
    have G4 := hide (G4.out.below hbw)
    have D6 := hide (D6.out.below hbw)
    have G5 := hide (G5.out.below hbw)
    have G6 := hide (G6.out.below hbw)
    have hB := bcall hB hbw
    by_cases hlt : x < T
    · have hxb : x < (H1 ++ H2).length := by have := hlH.out; omega
      by_cases hxa : x < a.length
      · have hx1 : x < H1.length := by have := H_l1.out; omega
        obtain ⟨b1, o1, rfl, -, e1⟩ := cells_at G6.out hxb
        obtain ⟨b2, o2, rfl, -, e2⟩ := cells_at G2.out hx1
        have hv := both_left H1 H2 x hx1 hxb
        rw [hv] at e1
        generalize H1[x] = z at *
        have q2 : (z != z) = false := by simp
        clear hv
        go_wp2
        go_roundw
        case rel => exact ⟨x + 1, by omega, by go_num, hbw0⟩
        case measure => simp [Go.RowKit.intOf]; omega
      · obtain ⟨j, hj⟩ : ∃ j, x = a.length + j := ⟨x - a.length, by omega⟩
        have hj2 : j < H2.length := by have := H_l2.out; have := H_hT.out; omega
        have hjb : j < b.length := by have := H_l2.out; omega
        have hxl : H1.length = a.length := H_l1.out
        obtain ⟨b1, o1, rfl, -, e1⟩ := cells_at G6.out hxb
        obtain ⟨b2, o2, rfl, -, e2⟩ := cells_at G4.out hj2
        have hv := both_right H1 H2 x j (by omega) hxb hj2
        rw [hv] at e1
        generalize H2[j] = z at *
        have q2 : (z != z) = false := by simp
        have hji : (x : Int) - (a.length : Int) = (j : Int) := by omega
        have hxa2 : a.length ≤ x := by omega
        clear hv hj hxl
        go_wp2
        go_roundw
        case rel => exact ⟨x + 1, by omega, by go_num, hbw0⟩
        case measure => simp [Go.RowKit.intOf]; omega
    · go_wp2
      go_ret
      exact ⟨rfl, hB⟩

set_option maxRecDepth 100000 in
theorem lifted (os : Os) (started : os.Started) (H : Type) (enc : TypeId × Value → H) (F : Stop.Interp) :
    ReturnsInHanded {} Try.checked os 7 .any ((Rows.OpenSpec.upto Rows.memAllSpec).pre6 enc Try.prog Try.f7 Rows.memAllUptoRow.domain false) (((Rows.OpenSpec.upto Rows.memAllSpec).at F).post enc Try.prog Try.f7 false true false false) := by
  refine returnsInHanded_of_cond_sized (C := Try.checked) (s := Rows.OpenSpec.upto Rows.memAllSpec) (k := Rows.uptoSmall) rfl ownL started (by kernel_rfl) Try.func7
    (OpenSpec.witness (enc := enc) (C := Try.checked) (s := Rows.OpenSpec.upto Rows.memAllSpec) (k := Rows.uptoSmall) rfl false ⟨#[], #[.slice none 0 0, .slice none 0 0, .slice none 0 0], []⟩ 8 (by kernel_rfl) (by kernel_rfl) (by kernel_rfl)
      (x := ([.nil, .nil, .nil], [], [])) (by kernel_rfl) rfl (by kernel_rfl)) ?_
  intro W base args ds gs before hval hW _ hk0 hsz0 _
  have hW' := hW
  obtain ⟨p, q, hA0, hV, rfl, hfz, hnd⟩ := hW
  have hA : DataW.TrodAll enc Try.prog W 0 (fun _ => true) true Try.f7.params.toList args.toList ds p := hA0
  rw [Try.params7] at hA hval
  obtain ⟨v0, vs0, d0, ds0, p0, q0, hargs, rfl, rfl, h0, r0⟩ := trodAll_cons hA
  obtain ⟨v1, vs1, d1, ds1, p1, q1, rfl, rfl, rfl, h1, r1⟩ := trodAll_cons r0
  obtain ⟨v2, vs2, d2, ds2, p2, q2, rfl, rfl, rfl, h2, r2⟩ := trodAll_cons r1
  obtain ⟨rfl, rfl, rfl⟩ := trodAll_nil r2
  obtain rfl : args = #[v0, v1, v2] := by cases args; simp_all
  obtain ⟨rfl, rfl⟩ := trodVars_none hV
  obtain ⟨l0, hl0, hq0, hd0⟩ := open_cells (hval 0 23 v0 rfl rfl) h0
  obtain ⟨l1, hl1, hq1, hd1⟩ := open_ops (hval 1 27 v1 rfl rfl) h1
  obtain ⟨l2, hl2, hq2, hd2⟩ := open_ops (hval 2 27 v2 rfl rfl) h2
  have hk : Rows.uptoBulkAll ([d0, d1, d2] : List (DataW H)) ≤ 1048576 := of_decide_eq_true hk0
  have e0 : l0.length + 1 ≤ 1048576 := by have h1 := slice_bulk hd0; have h2 := bulk_mem hk 0 rfl; omega
  have e1 : l1.length + 1 ≤ 1048576 := by have h1 := slice_bulk hd1; have h2 := bulk_mem hk 1 rfl; omega
  have e2 : l2.length + 1 ≤ 1048576 := by have h1 := slice_bulk hd2; have h2 := bulk_mem hk 2 rfl; omega
  refine (walk v0 v1 v2 l0 l1 l2 W hl0 hl1 hl2 (by omega) (by omega) (by omega)).mono fun e W' ⟨he, hg⟩ => ?_
  subst he
  exact ⟨_, rfl, law_post laidOutL (by kernel_rfl) rfl Try.underlying4 rfl ⟨rfl, rfl, rfl⟩ hW' hg⟩

/-- THE STATEMENT -/
theorem proved : Rows.MemAllUptoSaid :=
  OpenClaim.holds_of_cond 7 Try.f7 rfl rfl rfl rfl rfl rfl rfl ⟨rfl, rfl, rfl, rfl, rfl⟩ rfl rfl rfl rfl rfl (by kernel_rfl) Try.func7 (by kernel_rfl)
    (of_decide_eq_true (by kernel_rfl)) (by unfold Func.isWrapper; first | (rw [if_pos (by decide +kernel)]; kernel_rfl) | (rw [if_neg (by decide +kernel)]; exact ⟨rfl, rfl⟩))
    (fun os started H enc _ F => lifted os started H enc F)
end Go.Proofs.Ytncflfpmdcjmcaa.lawMemAll
